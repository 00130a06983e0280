import Derived.Test.YtdepbohhmfkjgaaGreatDoorPk5
set_option maxRecDepth 100000
set_option maxHeartbeats 4000000
namespace Go.Proofs.YtdepbohhmfkjgaaGreatDoor
open Go.RowKit Tryz
variable {qs:List zi}
theorem zbg.bsAt {b:List zi}(h:zbg b qs)(k:Nat):(zcu b k).bs=(zcu qs k).bs:=by
 have c:(b.map (·.bs))[k]? = (qs.map (·.bs))[k]?:=by rw[h]
 simp only[List.getElem?_map] at c;simp only[zcu,List.getD];cases h1:b[k]?<;>cases h2:qs[k]?<;>simp_all
theorem znR {b:List zi}(h:zbg b qs)(k:Nat):zbd b k=zbd qs k:=by
 induction k with
 | zero=>rfl
 | succ k ih=>
  have c:zci b k=zci qs k:=by
   have d:zfn b k=zfn qs k:=by
    simp only[zfn,h.bsAt]
   rw[zci,zci,d,h.bsAt k]
  rw[zbd,zbd,ih,c]
theorem zlm {b:List zi}(h:zbg b qs):zbV b=zbV qs:=by
 rw[zbV,zbV,h.length,znR h]
variable {w w':World}{rd au:Int}{ra:Option Addr}{bl pl:List zi}{rc:Nat}
theorem zjf (b ys:List zi)(h:zbg b ys):zam b=zam ys:=by
 have h':b.map (·.bs)=ys.map (·.bs):=h;clear h
 induction b generalizing ys with
 | nil=>cases ys with
  | nil=>rfl
  | cons y ys=>simp at h'
 | cons x b ih=>cases ys with
  | nil=>simp at h'
  | cons y ys=>
   simp only[List.map_cons,List.cons.injEq] at h';rw[zam,zam,h'.1,ih ys h'.2]
theorem zgO {d f:List zi}(b:zbg d bl)(c:zbg f pl):zaQ au rd d f=zaQ au rd bl pl:=by
 rw[zaQ,zaQ,za6,za6,za6,za6,zjf _ _ b,zjf _ _ c,b.length,c.length]
theorem zeA {d f:List zi}(b:zbg d bl)(c:zbg f pl):zK au rd d f=zK au rd bl pl:=by
 rw[zK,zK,zlm b,zlm c,b.length,c.length]
theorem zil (h:zy w ra rc qs)(l:∀ b c,ra=some ⟨b,c,none⟩→b<w.heap.size)(j:∀ p∈qs,p.bs.length=32):Off w (O_) ra qs:=
 ⟨fun b c e=>⟨l b c e,fun h=>by cases h⟩,fun p f b c e=>⟨by
  have m:=h.parts.each p f
  rcases m.bytes with d|⟨o,q,g,d⟩
  ·have:=j p f;rw[d] at this;simp at this
  ·rw[e] at g;cases g;exact bL_ (d 0 (by rw[j p f];decide)),fun h=>by cases h⟩⟩
structure HAt (w:World)(ba:Option Addr)(bc:Nat)(bl:List zi)(pa:Option Addr)(pc:Nat)(pl:List zi):Prop where
 lb:zy w ba bc bl
 lp:zy w pa pc pl
 rb:∀ sb so,ba=some ⟨sb,so,none⟩→sb<w.heap.size
 rp:∀ sb so,pa=some ⟨sb,so,none⟩→sb<w.heap.size
theorem HAt.below {f:Option Addr}{g:Nat}{j:Option Addr}{l:Nat}(h:HAt w f g bl j l pl)(b:B_ w w'):HAt w' f g bl j l pl:=
 ⟨h.lb.below b,h.lp.below b,fun c d e=>nL_ (h.rb c d e) b.size,fun c d e=>nL_ (h.rp c d e) b.size⟩
def zay (au rd:Int)(bl pl:List zi):List Int:=zgM 2 (zaQ au rd bl pl)
theorem zbs (au rd:Int)(bl pl:List zi):(zay au rd bl pl).length=32:=zgN _ _
theorem zdz {c:Option Addr}{d:Nat}{f:Option Addr}{g:Nat}(h:HAt w c d bl f g pl)(j:zK au rd bl pl=0)(o:zby w) :
  Calls prog 170 #[.agg #[I_ au,I_ rd,.slice c bl.length d,.slice f pl.length g]] w fun e w'=>∃ b,e=.returned (.tuple #[.slice (some ⟨b,0,none⟩) 32 32,I_ 0])∧w.heap.size≤b∧B_ w w'∧zf w' (some ⟨b,0,none⟩) 32 (zay au rd bl pl):=by
 obtain ⟨p,q,s,r,l,m⟩:=za7 j;exact zj4 au rd c bl.length d bl f pl.length g pl w rfl rfl h.lb h.lp (zil h.lb h.rb l) (zil h.lp h.rp m) j p ⟨by omega,q.2⟩ (by omega) r l m o
def zaw (p:Nat→Bool):Nat→Int
 | 0=>-1
 | k+1=>if 0≤zaw p k then zaw p k else if p k=true then (k:Int) else -1
theorem ziV (p:Nat→Bool)(k:Nat):-1≤zaw p k∧zaw p k<k:=by
 induction k with
 | zero=>exact ⟨by simp[zaw],by simp[zaw]⟩
 | succ k ih=>
  rw[zaw]
  split
  ·omega
  ·split<;>omega
theorem zln (p:Nat→Bool)(m k:Nat)(h:0≤zaw p m)(b:m≤k):zaw p k=zaw p m:=by
 induction k with
 | zero=>
  obtain rfl:m=0:=by omega
  rfl
 | succ k ih=>
  rcases Nat.lt_or_ge m (k+1) with g|g
  ·rw[zaw,ih (by omega),if_pos h]
  ·obtain rfl:m=k+1:=by omega
   rfl
theorem zfh (p:Nat→Bool)(m k:Nat)(h:zaw p m=-1)(c:p m=true)(b:m<k):zaw p k=m:=by
 have e:zaw p (m+1)=m:=by rw[zaw,h];simp[c]
 rw[zln p (m+1) k (by rw[e];omega) b,e]
theorem zfv (p:Nat→Bool)(m:Nat)(h:zaw p m=-1)(b:p m=false):zaw p (m+1)=-1:=by rw[zaw,h];simp[b]
theorem zpj (p q:Nat→Bool)(k:Nat)(h:∀ j,j<k→p j=q j):zaw p k=zaw q k:=by
 induction k with
 | zero=>rfl
 | succ k ih=>rw[zaw,zaw,ih (fun j b=>h j (by omega)),h k (by omega)]
theorem zmw (p:Nat→Bool)(k:Nat)(h:0≤zaw p k):p (zaw p k).toNat=true:=by
 induction k with
 | zero=>simp[zaw] at h
 | succ k ih=>
  rw[zaw] at h ⊢
  split
  ·rename_i g
   exact ih g
  ·rename_i g
   rw[if_neg g] at h
   split
   ·rename_i b
    simpa using b
   ·rename_i b
    rw[if_neg b] at h;omega
theorem zoK (p:Nat→Bool)(k:Nat)(h:zaw p k<0)(j:Nat)(c:j<k):p j=false:=by
 induction k with
 | zero=>omega
 | succ k ih=>
  rw[zaw] at h
  split at h
  ·omega
  ·rename_i g
   split at h
   ·omega
   ·rename_i b
    rcases Nat.lt_or_ge j k with q|q
    ·exact ih (by omega) q
    ·obtain rfl:j=k:=by omega
     simpa using b
variable {sa:Option Addr}{vl:List Int}
structure Ct where
 au:Int
 rd:Int
 ba:Option Addr
 bc:Nat
 bl:List zi
 pa:Option Addr
 pc:Nat
 pl:List zi
 va:Option Addr
 vc:Nat
 vl:List Int
abbrev crow_ (x:Ct):Array Value:=#[.int .i64 x.au,.int .i64 x.rd,.slice x.ba x.bl.length x.bc,.slice x.pa x.pl.length x.pc,.slice x.va x.vl.length x.vc]
abbrev hrow_ (x:Ct):Array Value:=#[.int .i64 x.au,.int .i64 x.rd,.slice x.ba x.bl.length x.bc,.slice x.pa x.pl.length x.pc]
structure CV where
 au:Int
 rd:Int
 bl:List (List Int)
 pl:List (List Int)
 vl:List Int
def zQ (l:List zi):List (List Int):=l.map (·.bs)
theorem zcr (l:List zi):(zQ l).length=l.length:=by simp[zQ]
def pz (l:List (List Int)):List zi:=l.map fun b=>⟨none,0,b⟩
theorem zck (l:List zi):zbg (pz (zQ l)) l:=by
 show (pz (zQ l)).map (·.bs)=l.map (·.bs);simp[pz,zQ]
theorem zuu (l:List zi)(k:Nat)(h:k<l.length):(zQ l).getD k []=(l[k]).bs:=by simp[zQ,h]
theorem zmx {l m:List zi}(h:zbg l m):zQ l=zQ m:=h
def Ct.v (c:Ct):CV:=⟨c.au,c.rd,zQ c.bl,zQ c.pl,c.vl⟩
def CV.f (c:CV):Int:=zai c.au c.rd (pz c.bl) (pz c.pl) c.vl
def CV.hf (c:CV):Int:=zK c.au c.rd (pz c.bl) (pz c.pl)
def CV.d (c:CV):List Int:=zay c.au c.rd (pz c.bl) (pz c.pl)
theorem zht {b c:List zi}(vl:List Int)(d:zbg b bl)(f:zbg c pl):zai au rd b c vl=zai au rd bl pl vl:=by
 rw[zai,zai,zeA d f]
theorem Ct.f_v (c:Ct):zai c.au c.rd c.bl c.pl c.vl=c.v.f:=(zht c.vl (zck c.bl) (zck c.pl)).symm
theorem Ct.hf_v (c:Ct):zK c.au c.rd c.bl c.pl=c.v.hf:=(zeA (zck c.bl) (zck c.pl)).symm
theorem Ct.d_v (c:Ct):zay c.au c.rd c.bl c.pl=c.v.d:=by
 rw[CV.d,zay,zay];show zgM 2 _=zgM 2 (zaQ c.au c.rd (pz (zQ c.bl)) (pz (zQ c.pl)));rw[zgO (zck c.bl) (zck c.pl)]
theorem CV.d_length (c:CV):c.d.length=32:=zbs _ _ _ _
theorem zeW (h:zai au rd bl pl vl=0):zK au rd bl pl=0:=by
 rw[zai] at h
 split at h
 ·exact h
 ·rename_i g
  simpa using g
def zD (ls:List Ct):List CV:=ls.map Ct.v
theorem zbh (b:List Ct):(zD b).length=b.length:=by simp[zD]
theorem zsU (b:List Ct)(k:Nat):zD (b.take k)=(zD b).take k:=by simp[zD,List.map_take]
def zaD (l:List CV)(k:Nat):CV:=l.getD k ⟨0,0,[],[],[]⟩
theorem zjE (b:List Ct)(k:Nat)(h:k<b.length):zaD (zD b) k=(b[k]).v:=by simp[zaD,zD,h]
def zeF (l:List CV)(au rd:Int)(j:Nat):Bool:=decide ((zaD l j).au=au∧(zaD l j).rd=rd)
theorem zsV (b:List Ct)(au rd:Int)(k:Nat)(h:k<b.length):zeF (zD b) au rd k=decide ((b[k]).au=au∧(b[k]).rd=rd):=by rw[zeF,zjE b k h];rfl
def cOf (l:List CV)(au rd:Int):Int:=zaw (zeF l au rd) l.length
def zkL (l:List CV)(d:List Int)(j:Nat):Bool:=decide (txL (zaD l j).d=txL d)
def pOf (l:List CV)(d:List Int):Int:=zaw (zkL l d) l.length
theorem zpk (l:List CV)(d:List Int):-1≤pOf l d∧pOf l d<l.length:=ziV _ _
theorem zj5 (l:List CV)(au rd:Int):-1≤cOf l au rd∧cOf l au rd<l.length:=ziV _ _
def zhu (l:List CV)(rd:Int)(d:List Int):Int:=if pOf l d<0 then 8 else if (zaD l (pOf l d).toNat).rd≠rd-1 then 9 else 0
def zbQ (l:List CV)(rd:Int)(pl:List (List Int)):Nat→Int
 | 0=>0
 | m+1=>if zbQ l rd pl m=9 then 9 else if zhu l rd (pl.getD m [])=0 then zbQ l rd pl m else zhu l rd (pl.getD m [])
def zc1 (l:List CV)(rd:Int)(pl:List (List Int)):Int:=zbQ l rd pl pl.length
theorem zj6 (l:List CV)(rd:Int)(pl:List (List Int))(m k:Nat)(h:zbQ l rd pl m=9)(b:m≤k):zbQ l rd pl k=9:=by
 induction k with
 | zero=>
  obtain rfl:m=0:=by omega
  exact h
 | succ k ih=>
  rcases Nat.lt_or_ge m (k+1) with g|g
  ·rw[zbQ,if_pos (ih (by omega))]
  ·obtain rfl:m=k+1:=by omega
   exact h
theorem zj7 (l:List CV)(rd:Int)(pl:List (List Int))(m:Nat)(h:zbQ l rd pl m≠9)(b:pOf l (pl.getD m [])<0):zbQ l rd pl (m+1)=8:=by
 rw[zbQ,if_neg h,zhu,if_pos b]
 rfl
theorem znS (l:List CV)(rd:Int)(pl:List (List Int))(m:Nat)(c:¬pOf l (pl.getD m [])<0)(d:(zaD l (pOf l (pl.getD m [])).toNat).rd≠rd-1)(b:m<pl.length):zc1 l rd pl=9:=by
 have e:zbQ l rd pl (m+1)=9:=by
  rw[zbQ,zhu,if_neg c,if_pos d]
  split
  ·rfl
  ·rfl
 exact zj6 l rd pl (m+1) _ e b
theorem zmy (l:List CV)(rd:Int)(pl:List (List Int))(m:Nat)(b:¬pOf l (pl.getD m [])<0)(c:(zaD l (pOf l (pl.getD m [])).toNat).rd=rd-1):zbQ l rd pl (m+1)=zbQ l rd pl m:=by
 have e:zhu l rd (pl.getD m [])=0:=by rw[zhu,if_neg b,if_neg (fun h=>h c)]
 rw[zbQ,if_pos e]
 split
 ·rename_i h
  exact h.symm
 ·rfl
def zc8 (l:List CV)(pl:List (List Int)):Nat→List (List Int)
 | 0=>[]
 | m+1=>if pOf l (pl.getD m [])<0 then zc8 l pl m++[pl.getD m []] else zc8 l pl m
def zkM (l:List CV)(pl:List (List Int)):List (List Int):=zc8 l pl pl.length
theorem zmz (l:List CV)(pl:List (List Int))(m:Nat):(zc8 l pl m).length≤m:=by
 induction m with
 | zero=>simp[zc8]
 | succ m ih=>
  rw[zc8]
  split
  ·simp;omega
  ·omega
theorem zlo (l:List CV)(rd:Int)(pl:List (List Int))(m:Nat)(h:zbQ l rd pl m≠9):zbQ l rd pl m=if (zc8 l pl m).length=0 then 0 else 8:=by
 induction m with
 | zero=>rfl
 | succ m ih=>
  have h':zbQ l rd pl m≠9:=fun e=>h (zj6 l rd pl m (m+1) e (by omega));by_cases hp:pOf l (pl.getD m [])<0
  ·rw[zj7 l rd pl m h' hp,zc8,if_pos hp,if_neg (by simp)]
  ·by_cases hr:(zaD l (pOf l (pl.getD m [])).toNat).rd=rd-1
   ·rw[zmy l rd pl m hp hr,zc8,if_neg hp];exact ih h'
   ·exfalso
    apply h
    rw[zbQ,zhu,if_neg hp,if_pos hr]
    split
    ·rfl
    ·rfl
def zen (l:List CV)(au rd:Int)(pl:List (List Int)):Int:=if 0≤cOf l au rd then 7 else zc1 l rd pl
def zfI (l:List CV)(k:Nat):Bool:=decide ((zaD l k).f≠0)||decide (zen (l.take k) (zaD l k).au (zaD l k).rd (zaD l k).pl≠0)
def zbI (l:List CV):Int:=if 400<l.length∨(List.range l.length).any (zfI l)=true then 12 else 0
theorem zwO (l:List CV)(k:Nat)(b:k<l.length)(h:zfI l k=true):zbI l=12:=by
 rw[zbI,if_pos]
 right
 simp only[List.any_eq_true];exact ⟨k,by simpa using b,h⟩
theorem zuv (l:List CV)(c:l.length≤400)(h:∀ k,k<l.length→zfI l k=false):zbI l=0:=by
 rw[zbI,if_neg];rintro (g|g)
 ·omega
 ·simp only[List.any_eq_true] at g;obtain ⟨k,b,e⟩:=g;rw[h k (by simpa using b)] at e;cases e
theorem zfw {l:List CV}(h:zbI l=0):l.length≤400∧∀ k,k<l.length→zfI l k=false:=by
 rw[zbI] at h
 split at h
 ·cases h
 ·rename_i g
  refine ⟨by omega,fun k b=>?_⟩;cases e:zfI l k with
  | false=>rfl
  | true=>exact absurd (.inr (List.any_eq_true.2 ⟨k,by simpa using b,e⟩)) g
theorem zvv (l:List CV)(k:Nat)(h:zfI l k=false):(zaD l k).f=0:=by
 simp only[zfI,Bool.or_eq_false_iff,decide_eq_false_iff_not,ne_eq,Decidable.not_not] at h;exact h.1
structure zaZ (w:World)(sa:Option Addr)(ls:List Ct):Prop where
 cells:ls=[]∨∃ sb so,sa=some ⟨sb,so,none⟩∧∀ j (h:j<ls.length),C_ w sb (so+j*5) (I_ (ls[j]).au)∧C_ w sb (so+j*5+1) (I_ (ls[j]).rd)∧C_ w sb (so+j*5+2) (.slice (ls[j]).ba (ls[j]).bl.length (ls[j]).bc)∧C_ w sb (so+j*5+3) (.slice (ls[j]).pa (ls[j]).pl.length (ls[j]).pc)∧C_ w sb (so+j*5+4) (.slice (ls[j]).va (ls[j]).vl.length (ls[j]).vc)
theorem zaZ.below {l:List Ct}(h:zaZ w sa l)(d:B_ w w'):zaZ w' sa l:=by
 refine ⟨?_⟩;rcases h.cells with h|⟨b,c,rfl,s⟩
 ·exact .inl h
 ·refine .inr ⟨b,c,rfl,fun j t=>?_⟩;obtain ⟨g,m,o,q,r⟩:=s j t;have f:b<w.heap.size:=bL_ g;exact ⟨(d.cell (p:=⟨b,c+j*5,none⟩) f).trans g,(d.cell (p:=⟨b,c+j*5+1,none⟩) f).trans m,(d.cell (p:=⟨b,c+j*5+2,none⟩) f).trans o,(d.cell (p:=⟨b,c+j*5+3,none⟩) f).trans q,(d.cell (p:=⟨b,c+j*5+4,none⟩) f).trans r⟩
theorem zaZ.take {b:List Ct}(h:zaZ w sa b)(k:Nat):zaZ w sa (b.take k):=by
 refine ⟨?_⟩;rcases h.cells with h|⟨g,l,rfl,c⟩
 ·left;simp[h]
 ·refine .inr ⟨g,l,rfl,fun j d=>?_⟩;have f:j<b.length:=by simp at d;omega
  have:=c j f
  simpa[List.getElem_take] using this
theorem zaZ.at {b:List Ct}(h:zaZ w sa b)(m:Nat)(f:m<b.length):∃ c d,sa=some ⟨c,d,none⟩∧C_ w c (d+m*5) (I_ (b[m]).au)∧C_ w c (d+m*5+1) (I_ (b[m]).rd)∧C_ w c (d+m*5+2) (.slice (b[m]).ba (b[m]).bl.length (b[m]).bc)∧C_ w c (d+m*5+3) (.slice (b[m]).pa (b[m]).pl.length (b[m]).pc)∧C_ w c (d+m*5+4) (.slice (b[m]).va (b[m]).vl.length (b[m]).vc):=by
 rcases h.cells with h|⟨c,d,rfl,g⟩
 ·rw[h] at f;simp at f
 ·exact ⟨c,d,rfl,g m f⟩
structure za2 (w:World)(c:Ct):Prop where
 hat:HAt w c.ba c.bc c.bl c.pa c.pc c.pl
 ints:zav w c.va c.vl
 vle:c.vl.length≤9000000000000000000
theorem za2.below {c:Ct}(h:za2 w c)(b:B_ w w'):za2 w' c:=⟨h.hat.below b,h.ints.below b,h.vle⟩
structure zwj (w:World)(sa:Option Addr)(cap:Nat)(ls:List Ct):Prop where
 le:ls.length≤cap
 max:cap≤9223372036854775807
 small:ls.length≤3000000000000000000
 some:cap=0∨∃ sb so,sa=some ⟨sb,so,none⟩
 certs:zaZ w sa ls
 each:∀ c∈ls,za2 w c
variable {n B cap base:Nat}{w2:World}{bs:List Int}{ls:List Ct}{xs:List Value}{v1:Value}{va:Option Addr}
def zeG (c:Ct)(b:Nat):Prop:=(∃ so,c.ba=some ⟨b,so,none⟩)∨(∃ so,c.pa=some ⟨b,so,none⟩)∨(∃ p,p∈c.bl++c.pl∧p.bs≠[]∧∃ so,p.sa=some ⟨b,so,none⟩)∨(c.vl≠[]∧∃ so,c.va=some ⟨b,so,none⟩)
theorem zeX (h:zf w sa cap bs)(g:∀ b c,bs≠[]→sa=some ⟨b,c,none⟩→w'.heap[b]? = w.heap[b]?):zf w' sa cap bs:=by
 refine ⟨h.le,h.max,h.some,h.nil,?_⟩;rcases h.bytes with d|⟨f,c,e,d⟩
 ·exact .inl d
 ·by_cases hn:bs=[]
  ·exact .inl hn
  ·exact .inr ⟨f,c,e,fun k j=>(cB_ (g f c hn e)).trans (d k j)⟩
theorem zfi (h:zf w sa cap bs)(f:bs≠[])(b g:Nat)(e:sa=some ⟨b,g,none⟩):b<w.heap.size:=by
 rcases h.bytes with c|⟨j,m,d,c⟩
 ·exact absurd c f
 ·rw[e] at d;cases d;exact bL_ (c 0 (by cases bs with|nil=>exact absurd rfl f|cons a l=>simp))
theorem zlp {f:List zi}(h:zy w sa cap f)(o:∀ b c,sa=some ⟨b,c,none⟩→w'.heap[b]? = w.heap[b]?)(m:∀ p,p∈f→∀ b c,p.bs≠[]→p.sa=some ⟨b,c,none⟩→w'.heap[b]? = w.heap[b]?):zy w' sa cap f:=by
 refine ⟨h.le,h.max,h.small,h.some,⟨?_,fun p g=>zeX (h.parts.each p g) (m p g)⟩⟩;rcases h.parts.cells with d|⟨j,c,e,d⟩
 ·exact .inl d
 ·exact .inr ⟨j,c,e,fun k l=>(cB_ (o j c e)).trans (d k l)⟩
theorem zqV (h:zav w va vl)(j:∀ b c,vl≠[]→va=some ⟨b,c,none⟩→w'.heap[b]? = w.heap[b]?):zav w' va vl:=by
 refine ⟨?_⟩;rcases h.cells with d|⟨f,c,e,d⟩
 ·exact .inl d
 ·by_cases hn:vl=[]
  ·exact .inl hn
  ·exact .inr ⟨f,c,e,fun k g=>(cB_ (j f c hn e)).trans (d k g)⟩
theorem za2.keep {c:Ct}(h:za2 w c)(m:w.heap.size≤w'.heap.size)(f:∀ b,zeG c b→w'.heap[b]? = w.heap[b]?):za2 w' c:=
 ⟨⟨zlp h.hat.lb (fun b d e=>f b (.inl ⟨d,e⟩)) (fun p j b d g e=>f b (.inr (.inr (.inl ⟨p,List.mem_append_left _ j,g,d,e⟩)))),zlp h.hat.lp (fun b d e=>f b (.inr (.inl ⟨d,e⟩))) (fun p j b d g e=>f b (.inr (.inr (.inl ⟨p,List.mem_append_right _ j,g,d,e⟩)))),fun l d e=>nL_ (h.hat.rb l d e) m,fun l d e=>nL_ (h.hat.rp l d e) m⟩,zqV h.ints (fun b d g e=>f b (.inr (.inr (.inr ⟨g,d,e⟩)))),h.vle⟩
theorem za2.block_lt {c:Ct}(h:za2 w c)(b:Nat)(o:zeG c b):b<w.heap.size:=by
 rcases o with ⟨d,e⟩|⟨d,e⟩|⟨p,g,f,d,e⟩|⟨f,d,e⟩
 ·exact h.hat.rb b d e
 ·exact h.hat.rp b d e
 ·rcases List.mem_append.1 g with g|g
  ·exact zfi (h.hat.lb.parts.each p g) f b d e
  ·exact zfi (h.hat.lp.parts.each p g) f b d e
 ·rcases h.ints.cells with j|⟨r,s,m,j⟩
  ·exact absurd j f
  ·rw[e] at m;cases m;exact bL_ (j 0 (by cases q:c.vl with|nil=>exact absurd q f|cons a l=>simp))
def zfx (w:World)(B:Nat)(v:Value)(ks:List Ct):Prop:=∀ c∈ks,za2 w c∧∀ b,zeG c b→B≤b∧v.ownBlock≠some b
theorem zfx.more {C:World}{v:Value}{A:List Ct}{c:Ct}{o:Obj}{F:Nat}{e:TypeId}(h:zfx w B v A)(I:B≤w.heap.size)(E:w.ownsRow B e F v n xs)(s:B_ w w2)
  (t:∀ b,zeG c b→w.heap.size≤b) (z:za2 w2 c) (G:zR (w2.alloc o) v C v1):zfx C B v1 (A++[c]):=by
 have r:B_ w2 (w2.alloc o):=(bR_ _ _).alloc (nR_ _) _;have J:w2.heap.size<(w2.alloc o).heap.size:=by rw[zI];omega
 have q:=G.grown.size;have D:=s.size;intro d j;rcases List.mem_append.1 j with j|j
 ·obtain ⟨y,p⟩:=h d j;have l:=(y.below s).below r;refine ⟨l.keep q (fun b f=>G.grown.block b (l.block_lt b f) (fun e=>(p b f).2 e.symm)),fun b f=>⟨(p b f).1,fun m=>?_⟩⟩;have:=y.block_lt b f;rcases G.fresh b m with g|g
  ·exact (p b f).2 g
  ·omega
 ·obtain rfl:d=c:=by simpa using j
  have u:∀ b,zeG d b→v.ownBlock≠some b:=fun b f m=>by
   have H:=(E.lt b m).2;have D:=t b f;omega
  have l:=z.below r;refine ⟨l.keep q (fun b f=>G.grown.block b (l.block_lt b f) (fun e=>u b f e.symm)),fun b f=>⟨by have:=t b f;omega,fun m=>?_⟩⟩;have:=z.block_lt b f;rcases G.fresh b m with g|g
  ·exact u b f g
  ·omega
theorem zmA:(prog.info? 59).map (fun i=>(i.zero,i.size,i.bytes))=some (some (.agg #[I_ 0,I_ 0,O_,O_,O_]),5,88):=by kernel_rfl
def Ct.cs (c:Ct):List Value:=[I_ c.au,I_ c.rd,.slice c.ba c.bl.length c.bc,.slice c.pa c.pl.length c.pc,.slice c.va c.vl.length c.vc]
def ctv:List Ct→List Value
 | []=>[]
 | s::r=>s.cs++ctv r
theorem zsW (b:List Ct)(s:Ct):ctv (b++[s])=ctv b++s.cs:=by
 induction b with
 | nil=>simp[ctv]
 | cons x r ih=>simp[ctv,ih]
theorem zei (b:List Ct):(ctv b).length=b.length*5:=by
 induction b with
 | nil=>rfl
 | cons x r ih=>simp[ctv,ih,Ct.cs];omega
theorem zf3 (b:List Ct)(j i:Nat)(h:j<b.length)(c:i<5):(ctv b)[j*5+i]? = (b[j]).cs[i]?:=by
 induction b generalizing j with
 | nil=>cases h
 | cons x r ih=>
  cases j with
  | zero=>simp only[ctv,Nat.zero_mul,Nat.zero_add,List.getElem_cons_zero];rw[List.getElem?_append_left (by simp[Ct.cs];exact c)]
  | succ j=>
   have h':j<r.length:=by simpa using h
   simp only[ctv,List.getElem_cons_succ];rw[List.getElem?_append_right (by simp[Ct.cs];omega),←ih j h']
   congr 1
   simp[Ct.cs];omega
theorem znT {v:Value}(h:w.ownsRow base 59 5 v n (ctv ls))(y:zfx w base v ls):∃ c rc,v=.slice c n rc∧n=ls.length∧(n≤3000000000000000000→zwj w c rc ls)∧(∀ b f,c=some ⟨b,f,none⟩→base≤b∧b<w.heap.size):=by
 have C:n=ls.length:=by have:=h.1;rw[zei] at this;omega
 rcases h.2 with ⟨rfl,D⟩|⟨g,l,G,rfl,d⟩
 ·have z:ls=[]:=eN_ (by omega);subst D z;exact ⟨none,0,rfl,rfl,fun _=>⟨nR_ _,by decide,by decide,.inl rfl,⟨.inl rfl⟩,fun p E=>by cases E⟩,(fun _ _ e=>by cases e)⟩
 ·refine ⟨some ⟨g,0,none⟩,l,rfl,C,fun I=>⟨?_,?_,by omega,.inr ⟨g,0,rfl⟩,⟨.inr ⟨g,0,rfl,fun j B=>?_⟩⟩,fun s F=>(y s F).1⟩,(fun b f e=>by cases e;exact h.lt _ rfl)⟩
  ·obtain ⟨_,_,H,_⟩:=d;omega
  ·obtain ⟨_,_,_,u,_⟩:=d;exact u
  ·have e:∀ i,i<5→w.cell? ⟨g,j*5+i,none⟩=(ls[j]).cs[i]?:=fun i A=>by rw[World.ownsRow.cellAt h (j*5+i) (by omega),zf3 ls j i B A]
   have m:=e 0 (by omega);have o:=e 1 (by omega);have q:=e 2 (by omega);have r:=e 3 (by omega);have t:=e 4 (by omega);exact ⟨by simpa[Ct.cs] using m,by simpa[Ct.cs] using o,by simpa[Ct.cs] using q,by simpa[Ct.cs] using r,by simpa[Ct.cs] using t⟩
variable {k:Nat}{r:Int}
structure Sl where
 au:Int
 rd:Int
 p:zi
abbrev srow_ (x:Sl):Array Value:=#[.int .i64 x.au,.int .i64 x.rd,.slice x.p.sa x.p.bs.length x.p.cap]
abbrev SV:=Int×Int×List Int
def Sl.v (s:Sl):SV:=(s.au,s.rd,s.p.bs)
def vs (ls:List Sl):List SV:=ls.map Sl.v
theorem zap (b:List Sl):(vs b).length=b.length:=by simp[vs]
def zdA (l:List SV)(k:Nat):SV:=l.getD k (0,0,[])
theorem zgf (b:List Sl)(k:Nat)(h:k<b.length):zdA (vs b) k=(b[k]).v:=by simp[zdA,vs,h]
def hit (l:List SV)(au rd:Int)(j:Nat):Bool:=decide ((zdA l j).1=au∧(zdA l j).2.1=rd)
theorem zuw (b:List Sl)(au rd:Int)(k:Nat)(h:k<b.length):hit (vs b) au rd k=decide ((b[k]).au=au∧(b[k]).rd=rd):=by rw[hit,zgf b k h];rfl
def zgw (l:List SV)(au rd:Int)(k:Nat)(r:Int):Prop:=(∃ m:Nat,m<k∧r=m∧hit l au rd m=true∧∀ j,j<m→hit l au rd j=false)∨(r=-1∧∀ j,j<k→hit l au rd j=false)
def zev (l:List SV)(au rd:Int)(k:Nat):Bool:=(List.range k).any (hit l au rd)
theorem zgw.neg {l:List SV}(h:zgw l au rd k r):(zev l au rd k=true∧0≤r)∨(zev l au rd k=false∧r=-1):=by
 rcases h with ⟨m,f,rfl,b,_⟩|⟨rfl,c⟩
 ·refine .inl ⟨?_,by omega⟩;simp only[zev,List.any_eq_true];exact ⟨m,by simpa using f,b⟩
 ·refine .inr ⟨?_,rfl⟩;simp only[zev,List.any_eq_false];intro j d;rw[c j (by simpa using d)];simp
def zdV (l:List SV)(k:Nat):Bool:=decide (za4 (zdA l k).1 (zdA l k).2.1 (zdA l k).2.2.length≠0)||zev l (zdA l k).1 (zdA l k).2.1 k
def zcV (l:List SV):Int:=if 400<l.length∨(List.range l.length).any (zdV l)=true then 12 else 0
theorem zqW (l:List SV)(h:400<l.length):zcV l=12:=by simp[zcV,h]
theorem zsX (l:List SV)(k:Nat)(b:k<l.length)(h:zdV l k=true):zcV l=12:=by
 rw[zcV,if_pos]
 right
 simp only[List.any_eq_true];exact ⟨k,by simpa using b,h⟩
theorem zux (l:List SV)(c:l.length≤400)(h:∀ k,k<l.length→zdV l k=false):zcV l=0:=by
 rw[zcV,if_neg];rintro (g|g)
 ·omega
 ·simp only[List.any_eq_true] at g;obtain ⟨k,b,e⟩:=g;rw[h k (by simpa using b)] at e;cases e
theorem zlq {l:List SV}(h:zcV l=0):l.length≤400∧∀ k,k<l.length→zdV l k=false:=by
 rw[zcV] at h
 split at h
 ·cases h
 ·rename_i g
  refine ⟨by omega,fun k b=>?_⟩;cases e:zdV l k with
  | false=>rfl
  | true=>exact absurd (.inr (List.any_eq_true.2 ⟨k,by simpa using b,e⟩)) g
theorem zuy (l:List SV):zcV l=0∨zcV l=12:=by
 rw[zcV];split
 ·exact .inr rfl
 ·exact .inl rfl
structure zfj (w:World)(sa:Option Addr)(ls:List Sl):Prop where
 cells:ls=[]∨∃ sb so,sa=some ⟨sb,so,none⟩∧∀ j (h:j<ls.length),C_ w sb (so+j*3) (I_ (ls[j]).au)∧C_ w sb (so+j*3+1) (I_ (ls[j]).rd)∧C_ w sb (so+j*3+2) (.slice (ls[j]).p.sa (ls[j]).p.bs.length (ls[j]).p.cap)
 each:∀ s∈ls,zf w s.p.sa s.p.cap s.p.bs
theorem zfj.below {m:List Sl}(h:zfj w sa m)(b:B_ w w'):zfj w' sa m:=by
 refine ⟨?_,fun p r=>(h.each p r).below b⟩;rcases h.cells with h|⟨c,d,rfl,o⟩
 ·exact .inl h
 ·refine .inr ⟨c,d,rfl,fun j q=>?_⟩;obtain ⟨f,g,l⟩:=o j q;exact ⟨(b.cell (p:=⟨c,d+j*3,none⟩) (block_lt_of_cell f)).trans f,(b.cell (p:=⟨c,d+j*3+1,none⟩) (block_lt_of_cell g)).trans g,(b.cell (p:=⟨c,d+j*3+2,none⟩) (block_lt_of_cell l)).trans l⟩
structure zdB (w:World)(sa:Option Addr)(cap:Nat)(ls:List Sl):Prop where
 le:ls.length≤cap
 max:cap≤9223372036854775807
 small:ls.length≤3000000000000000000
 some:cap=0∨∃ sb so,sa=some ⟨sb,so,none⟩
 slots:zfj w sa ls
theorem zdB.below {b:List Sl}(h:zdB w sa cap b)(c:B_ w w'):zdB w' sa cap b:=⟨h.le,h.max,h.small,h.some,h.slots.below c⟩
theorem zg3 {a b:ByteArray}(h:a.toList=b.toList):a=b:=by
 rw[ByteArray.toList_eq,ByteArray.toList_eq] at h;exact Go.WideShapes.bytes_inj h
theorem zfy (bs:List Int):(zaf bs).data.toList=bs.map fun n=>UInt8.ofNat n.toNat:=by
 have h:∀ (l:List Int) (r:ByteArray),(l.foldl (fun r n=>r.push (UInt8.ofNat n.toNat)) r).data.toList=r.data.toList++l.map fun n=>UInt8.ofNat n.toNat:=by
  intro l
  induction l with
  | nil=>simp
  | cons x l ih=>intro r;rw[List.foldl_cons,ih];simp[ByteArray.push]
 rw[zaf,h]
 simp
theorem zjF {c ys:List Int}(d:∀ x∈c,0≤x∧x≤255)(m:∀ x∈ys,0≤x∧x≤255)(h:zaf c=zaf ys):c=ys:=by
 have g:c.map (fun n=>UInt8.ofNat n.toNat)=ys.map (fun n=>UInt8.ofNat n.toNat):=by rw[←zfy,←zfy,h]
 have f:∀ l:List Int,(∀ x∈l,0≤x∧x≤255)→(l.map (fun n=>UInt8.ofNat n.toNat)).map (fun b=>(b.toNat:Int))=l:=by
  intro l j;rw[List.map_map]
  conv=>rhs;rw[←List.map_id l]
  refine List.map_congr_left fun x d=>?_;have:=j x d;simp only[Function.comp,id];rw[UInt8.toNat_ofNat',Nat.mod_eq_of_lt (by omega)];omega
 rw[←f c d,←f ys m,g]
structure Sg where
 nd:Int
 au:Int
 rd:Int
 p:zi
abbrev GV:=Int×Int×Int×List Int
def Sg.v (s:Sg):GV:=(s.nd,s.au,s.rd,s.p.bs)
def zA (ls:List Sg):List GV:=ls.map Sg.v
theorem zeY (b:List Sg):(zA b).length=b.length:=by simp[zA]
def zgx (nd au rd:Int)(n:Nat):Int:=if ¬(0≤nd∧nd<4) then 2 else za4 au rd n
def gF (g:GV):Int:=zgx g.1 g.2.1 g.2.2.1 g.2.2.2.length
def zbu (l:List GV):Int:=if (∀ g∈l,gF g=0)∧l.Nodup then 0 else 12
theorem zlr (l:List GV):zbu l=0∨zbu l=12:=by
 rw[zbu];split
 ·exact .inl rfl
 ·exact .inr rfl
theorem znU {l:List GV}(h:zbu l=0):(∀ g∈l,gF g=0)∧l.Nodup:=by
 rw[zbu] at h
 split at h
 ·assumption
 ·cases h
theorem zqX {l:List GV}(h:(∀ g∈l,gF g=0)∧l.Nodup):zbu l=0:=by rw[zbu,if_pos h]
theorem zmB {l:List GV}(h:¬l.Nodup):zbu l=12:=by
 rw[zbu,if_neg];intro k;exact h k.2
structure zcf (w:World)(sa:Option Addr)(ls:List Sg):Prop where
 cells:ls=[]∨∃ sb so,sa=some ⟨sb,so,none⟩∧∀ j (h:j<ls.length),C_ w sb (so+j*4) (I_ (ls[j]).nd)∧C_ w sb (so+j*4+1) (I_ (ls[j]).au)∧C_ w sb (so+j*4+2) (I_ (ls[j]).rd)∧C_ w sb (so+j*4+3) (.slice (ls[j]).p.sa (ls[j]).p.bs.length (ls[j]).p.cap)
 each:∀ s∈ls,zf w s.p.sa s.p.cap s.p.bs∧zaF s.p.bs
theorem zcf.below {q:List Sg}(h:zcf w sa q)(b:B_ w w'):zcf w' sa q:=by
 refine ⟨?_,fun p o=>⟨(h.each p o).1.below b,(h.each p o).2⟩⟩;rcases h.cells with h|⟨c,d,rfl,r⟩
 ·exact .inl h
 ·refine .inr ⟨c,d,rfl,fun j s=>?_⟩;obtain ⟨f,g,l,m⟩:=r j s;exact ⟨(b.cell (p:=⟨c,d+j*4,none⟩) (block_lt_of_cell f)).trans f,(b.cell (p:=⟨c,d+j*4+1,none⟩) (block_lt_of_cell g)).trans g,(b.cell (p:=⟨c,d+j*4+2,none⟩) (block_lt_of_cell l)).trans l,(b.cell (p:=⟨c,d+j*4+3,none⟩) (block_lt_of_cell m)).trans m⟩
structure zeo (w:World)(sa:Option Addr)(cap:Nat)(ls:List Sg):Prop where
 le:ls.length≤cap
 max:cap≤9223372036854775807
 small:ls.length≤2932031007400
 some:cap=0∨∃ sb so,sa=some ⟨sb,so,none⟩
 slots:zcf w sa ls
theorem zeo.below {b:List Sg}(h:zeo w sa cap b)(c:B_ w w'):zeo w' sa cap b:=⟨h.le,h.max,h.small,h.some,h.slots.below c⟩
theorem zvw {b ys:List Int}(c:zaF b)(d:zaF ys):txL b=txL ys↔b=ys:=⟨fun h=>zjF c d (zg3 h),fun h=>by rw[h]⟩
theorem zlX {α:Type}{l:List α}{x:α}(b:k<l.length):x∈l.take (k+1)↔x∈l.take k∨x=l[k]:=by
 rw[tS_ b,List.mem_append,List.mem_singleton]
end Go.Proofs.YtdepbohhmfkjgaaGreatDoor
