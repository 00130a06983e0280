import Derived.Test.YtdnaljbnebnlhaaGreatDoorPk6
set_option maxRecDepth 100000
set_option maxHeartbeats 4000000
namespace Go.Proofs.YtdnaljbnebnlhaaGreatDoor
open Go.RowKit Tryz
variable {w:World}{n base:Nat}{bs:List Int}
def psz (ps:List zi):Nat->Nat
 | 0=>0
 | k+1=>psz ps k+(2+(ps.getD k ⟨none,0,[]⟩).bs.length)
theorem zoe (b:List zi)(j k:Nat)(h:j<=k):psz b j<=psz b k:=by
 induction k with
 | zero=>
  obtain rfl:j=0:=by omega
  exact nR_ _
 | succ k ih=>
  rcases Nat.lt_or_ge j (k+1)with g|g
  .exact nT_ (ih (by omega)) (by simp[psz])
  .obtain rfl:j=k+1:=by omega
   exact nR_ _
theorem zvh (b:List zi)(j:Option Addr)(n l:Nat)(w:World)(q:n=b.length)(g:zbT w j b)(y:1+psz b b.length<=4000) :
  Calls prog 97 #[.slice j n l] w λe w'=>e=.returned (.bool true)/\w=w':=by
 subst q;have u:b.length<=2000:=by
  have:∀k,2*k<=psz b k:=by
   intro k
   induction k with
   | zero=>exact nR_ _
   | succ k ih=>simp[psz];omega
  have:=this b.length;omega
 go_in;go_wp2_with fail
 go_loop [8,3] (λi r=>∃k:Nat,k<=b.length/\i=I_ k/\r=I_ (3999-(psz b k:Int))) (λi _=>b.length-(intOf i).toNat)
 case atStart=>exact⟨0,nZ_ _,rfl,rfl⟩
 case round=>
  obtain⟨k,t,rfl,rfl⟩:=hrel;by_cases hlt:k<b.length
  .rcases g.cells with c|⟨C,D,rfl,c⟩
   .subst c;simp at hlt
   have d:=c k hlt;have o:=zoe b (k+1) b.length hlt;have f:Hid (psz b (k+1)=psz b k+(2+(b[k]).bs.length)):=by show _=_;simp[psz,hlt]
   have p:psz b k+(2+(b[k]).bs.length)<=3999:=by have:=f.out;omega
   generalize (b[k]).bs.length=m at d f p;generalize (b[k]).sa=A at d;generalize (b[k]).cap=B at d;clear o c g;generalize psz b k=z at*;have s:¬((3999:Int)-z-2<m):=by omega
   go_wp2_with fail
   go_round
   case rel=>exact⟨k+1,by omega,by go_num,by rw[f.out];go_num⟩
   case measure=>simp[intOf];omega
  .go_wp2_with fail
   go_ret;exact⟨rfl,rfl⟩
theorem zx0 {v:Value}{cs:List Int}(h:w.ownsRow base 5 1 v n (ub bs++cs.map (Value.int .u8))):w.ownsRow base 5 1 v n (ub (bs++cs)):=by
 simpa[ub]using h
def zdS (tag:Int)(ps:List zi):Nat->List Int
 | 0=>[tag]
 | k+1=>zdS tag ps k++[((ps.getD k ⟨none,0,[]⟩).bs.length:Int) / 256 % 256,((ps.getD k ⟨none,0,[]⟩).bs.length:Int) % 256]++(ps.getD k ⟨none,0,[]⟩).bs
theorem zof (c:Int)(b:List zi)(k:Nat):(zdS c b k).length=1+psz b k:=by
 induction k with
 | zero=>rfl
 | succ k ih=>simp[zdS,psz,ih];omega
theorem zmW (f:Int)(c:List zi)(t:Option Addr)(n u:Nat)(w:World)(V:n=c.length)(m:zbT w t c)(E:1+psz c c.length<=4000)(N:zbJ w) :
  Calls prog 64 #[.int .u8 f,.slice t n u] w λe w'=>∃b,e=.returned (.tuple #[.slice (some ⟨b,0,none⟩) 32 32,I_ 0])/\w.heap.size<=b/\B_ w w'/\zg w' (some ⟨b,0,none⟩) 32 (zhj (zdS f c c.length)):=by
 subst V;have af:c.length<=2000:=by
  have:∀k,2*k<=psz c k:=by
   intro k
   induction k with
   | zero=>exact nR_ _
   | succ k ih=>simp[psz];omega
  have:=this c.length;omega
 obtain⟨i,R,ab,ac,ad⟩:=info_parts zek;have Y:(w.alloc (.cells #[.int .u8 f] 5)).ownsRow w.heap.size 5 1 (.slice (some ⟨w.heap.size,0,none⟩) 1 1) 1 (ub (zdS f c 0)):=
  World.ownsRow_lit w #[.int .u8 f] 1 (nR_ _) (by decide) rfl
 go_in;go_wp2_with fail
 refine(zvh c t _ u w rfl m E).mono ?_;rintro e w'⟨rfl,rfl⟩;go_wp2_with fail
 go_loopw [16,6] (λj v wr=>∃k:Nat,k<=c.length/\j=I_ k/\B_ w wr/\wr.ownsRow w.heap.size 5 1 v (1+psz c k) (ub (zdS f c k))) (λj _ _=>c.length-(intOf j).toNat)
 case atStart=>exact⟨0,nZ_ _,rfl,(bR_ _ _).alloc (nR_ _) _,Y⟩
 case round=>
  obtain⟨k,hk,rfl,d,l⟩:=hrel;by_cases hlt:k<c.length
  .have B:=m.below d;rcases B.cells with g|⟨sb,so,rfl,g⟩
   .subst g;simp at hlt
   have J:=g k hlt;have L:=zoe c (k+1) c.length hlt;have o:Hid (psz c (k+1)=psz c k+(2+(c[k]).bs.length)):=by show _=_;simp[psz,hlt]
   have M:psz c k+(2+(c[k]).bs.length)<=3999:=by have:=o.out;omega
   have D:((c[k]).bs.length:Int) / 256 % 256=((c[k]).bs.length:Int) / 256:=by omega
   have F:Hid (zdS f c (k+1)=zdS f c k++[((c[k]).bs.length:Int) / 256,((c[k]).bs.length:Int) % 256]++(c[k]).bs):=by
    show _=_;rw[<-D];simp[zdS,hlt]
   have C:=m.each (c[k]) (gM_ hlt);have U:Hid ((c[k]).bs.length=(c[k]).bs.length):=rfl;clear L g B m D;generalize c[k]=p at*;obtain⟨pa,pc,bs⟩:=p
   simp only at J o M F C
   clear U;have G:True:=trivial;go_wp2_with (first|(at_builtin;have _t:=G;refine wpList_append_own _ rfl _ _ 51 rfl w.heap.size 5 i (.int .u8 0) 1 1 underlying51 R ab ac ad rfl (by decide) _ (1+psz c k) _ rfl (l.alloc _) ⟨wr.heap.size,0,none⟩ 2 2 [.int .u8 ((bs.length:Int) / 256),.int .u8 ((bs.length:Int) % 256)] rfl rfl (zag _ _ _) (zds [_,_]) (by unfold maxLen;omega) (by omega) (zB d.size _) ?_;clear G;intro v1 w1 A s _)|(at_builtin;refine zgo rfl _ _ rfl w.heap.size _ _ (zdS f c k++[(bs.length:Int) / 256,(bs.length:Int) % 256]) rfl (zx0 A) pa bs.length pc bs rfl rfl (C.below (Below.grown (d.alloc d.size _) s (zB d.size _) (λq e=>(l.lt q e).1))) (by omega) (nT_ (zB d.size _) s.size) ?_;intro v2 w2 X O))
   have y:=Below.grown (d.alloc d.size _) s (zB d.size _) (λq e=>(l.lt q e).1);have r:=Below.grown y O y.size (λq e=>(A.lt q e).1);go_roundw
   case rel=>
    refine⟨k+1,by omega,by go_num,r,?_⟩;rw[F.out,o.out,show 1+(psz c k+(2+bs.length))=1+psz c k+2+bs.length by omega];exact X
   case measure=>simp[intOf];omega
  .obtain rfl:k=c.length:=by omega
   obtain⟨ae,I,hv,z,aa⟩:=zeG l;subst hv;have H:Hid (1+psz c c.length=(zdS f c c.length).length):=z;clear z;go_wp2_with fail
   refine(zxZ (zdS f c c.length) ae _ I wr H.out (by rw[zof];exact E) aa (N.below d)).mono ?_;rintro e w2⟨b,rfl,T,r,Z⟩;go_wp2_with fail
   go_ret2;exact⟨b,rfl,nT_ d.size T,d.trans (r.mono d.size),Z⟩
def zhV (tag:Int)(bs:List Int):List Int:=zhj (zdS tag [⟨none,0,bs⟩] 1)
theorem zhW (b:Int)(bs:List Int):(zhV b bs).length=32:=zpP _
theorem zlt (b:Int)(d:Option Addr)(c:Nat)(bs:List Int):zdS b [⟨d,c,bs⟩] 1=zdS b [⟨none,0,bs⟩] 1:=by simp[zdS]
theorem zog (w:World)(c:Option Addr)(n b:Nat)(bs:List Int)(f:n=bs.length)(l:zg w c b bs):zbT (w.alloc (.cells #[.slice c n b] 51)) (some ⟨w.heap.size,0,none⟩) [⟨c,b,bs⟩]:=by
 refine⟨.inr ⟨w.heap.size,0,rfl,λj d=>?_⟩,λp g=>?_⟩
 .obtain rfl:j=0:=by simpa using d
  subst f;exact zhz w _ _ 0 _ rfl
 .obtain rfl:p=⟨c,b,bs⟩:=by simpa using g
  exact l.below ((bR_ _ _).alloc (nR_ _) _)
theorem zkZ (au rd:Int)(b:Option Addr)(g c:Nat)(bl:List zi)(d:Option Addr)(l f:Nat)(pl:List zi)(j:Int)(w:World)(p:g=bl.length)(r:l=pl.length)(s:zx w b c bl)(u:zx w d f pl)(q:zO au rd bl pl=j)(y:j≠0) :
  Calls prog 34 #[.agg #[I_ au,I_ rd,.slice b g c,.slice d l f]] w λe w'=>e=.returned (.tuple #[O_,I_ j])/\B_ w w':=by
 have m:=zC w (.cells #[I_ au,I_ rd,.slice b g c,.slice d l f] 61);have o:=zeB au rd b c bl d f pl _ (s.below m) (u.below m);rw[q,<-p,<-r]at o;clear p r q;go_in;go_wp2_with fail
 refine o.mono ?_;rintro e z⟨rfl,t⟩;go_wp2_with fail
 go_ret2;exact⟨rfl,zS t⟩
theorem zlu (au rd:Int)(c:Option Addr)(m l:Nat)(bl:List zi)(d:Option Addr)(s r:Nat)(pl:List zi)(w:World)(E:m=bl.length)(G:s=pl.length)(O:zx w c l bl)(o:zx w d r pl)(M:Off w (O_) c bl)(N:Off w (O_) d pl)(L:zO au rd bl pl=0)(ha:0<=au/\au<4)(hr:0<=rd/\rd<=1048576)(ae:bl.length<=4)(ag:pl.length<=4)(R:∀p∈bl,p.bs.length=32)(T:∀p∈pl,p.bs.length=32)(hT:zbJ w) :
  Calls prog 34 #[.agg #[I_ au,I_ rd,.slice c m l,.slice d s r]] w λe w'=>∃b,e=.returned (.tuple #[.slice (some ⟨b,0,none⟩) 32 32,I_ 0])/\w.heap.size<=b/\B_ w w'/\zg w' (some ⟨b,0,none⟩) 32 (zhV 2 (zaZ au rd bl pl)):=by
 have I:=zC w (.cells #[I_ au,I_ rd,.slice c m l,.slice d s r] 61);have D:=zeB au rd c l bl d r pl _ (O.below I) (o.below I);rw[L,<-E,<-G]at D;have aj:=zdY bl R;have ak:=zdY pl T;have X:Hid (m=bl.length):=E;have Y:Hid (s=pl.length):=G;clear E G L;go_in;go_wp2_with fail
 refine D.mono ?_;rintro e u⟨rfl,f⟩;have z:=zbK f;replace f:=zS f;have c0:=zb z 0 (I_ au) rfl;have c1:=zb z 1 (I_ rd) rfl;have c2:=zb z 2 (.slice c m l) rfl;have c3:=zb z 3 (.slice d s r) rfl;have t:=f.size;clear D;have aa:Off u (O_) c bl:=⟨λg j e=>⟨nL_ (M.row g j e).1 t,λh=>by cases h⟩,λp o g j e=>⟨nL_ (M.each p o g j e).1 t,λh=>by cases h⟩⟩;have ab:Off u (O_) d pl:=⟨λg j e=>⟨nL_ (N.row g j e).1 t,λh=>by cases h⟩,λp o g j e=>⟨nL_ (N.each p o g j e).1 t,λh=>by cases h⟩⟩;go_wp2_with fail
 refine(zkW u.heap.size (O_) 0 [] au rd c m l bl d s r pl u ha hr X.out Y.out ae ag R T (O.below f) aa (o.below f) ab (oN_ _ _ _ _) (nR_ _) (by decide)).mono ?_;rintro e w2⟨v2,rfl,F,H⟩;have ac:B_ u w2:=H.below (nR_ _) (λq e=>by cases e);rw[Nat.zero_add,List.nil_append]at F;obtain⟨A,C,hv,U,hx⟩:=zeG F;subst hv;have y:=f.trans (ac.mono t);have HX:Hid _:=U;have ai:(zaZ au rd bl pl).length<=300:=by simp[zaZ,rd3,zbh];omega
 have Z:=zC w2 (.cells #[.slice A (zaZ au rd bl pl).length C] 51);clear U F H;generalize J:zaZ au rd bl pl=B at*;have V:Hid _:=J;clear J;go_wp2_with fail
 refine(zmW 2 [⟨A,C,B⟩] _ _ _ _ rfl (zog w2 A _ C B rfl hx) (by simp[psz];omega) ((hT.below y).below Z)).mono ?_;rintro e w3⟨b,rfl,af,ad,ah⟩;go_wp2_with fail
 go_ret2;refine⟨b,rfl,?_,?_,?_⟩
 .rw[zG]at af;have:=y.size;omega
 .exact y.trans ((zS ad).mono y.size)
 .rw[zhV,V.out,<-zlt 2 A C B];exact ah
variable {rd au:Int}{bl pl:List zi}
theorem zpQ (c:List zi)(k:Nat)(h:zbn c k=0):∀j,j<k->zcF c j=0:=by
 induction k with
 | zero=>intro j d;omega
 | succ k ih=>
  rw[zbn]at h
  split at h
  .rename_i b;exact absurd h b
  .rename_i b
   intro j d;rcases Nat.lt_or_ge j k with g|g
   .exact ih (by simpa using b) j g
   .obtain rfl:j=k:=by omega
    exact h
theorem zoh {b:List zi}(h:zb8 b=0):∀p∈b,p.bs.length=32:=by
 intro p g;obtain⟨j,d,rfl⟩:=List.getElem_of_mem g;have c:=zpQ b b.length h j d;rw[zcF,zgQ b j d]at c
 split at c
 .cases c
 .rename_i f;simpa using f
theorem zbi (h:zO au rd bl pl=0):(0<=au/\au<4)/\(1<=rd/\rd<=1048576)/\bl.length<=3/\pl.length<=4/\(∀p∈bl,p.bs.length=32)/\(∀p∈pl,p.bs.length=32):=by
 unfold zO at h
 split at h
 .cases h
 .split at h
  .cases h
  .split at h
   .rename_i b;exact absurd h b
   .split at h
    .rename_i b;exact absurd h b
    .rename_i b f c d
     exact⟨by omega,by omega,by omega,by omega,zoh (by simpa using c),zoh (by simpa using d)⟩
variable {qs:List zi}
theorem zbm.bsAt {b:List zi}(h:zbm b qs)(k:Nat):(zcT b k).bs=(zcT qs k).bs:=by
 have c:(b.map (·.bs))[k]? = (qs.map (·.bs))[k]?:=by rw[h]
 simp only[List.getElem?_map]at c;simp only[zcT,List.getD];cases h1:b[k]?<;>cases h2:qs[k]?<;>simp_all
theorem zpR {b:List zi}(h:zbm b qs)(k:Nat):zbn b k=zbn qs k:=by
 induction k with
 | zero=>rfl
 | succ k ih=>
  have c:zcF b k=zcF qs k:=by
   have d:zgm b k=zgm qs k:=by
    simp only[zgm,h.bsAt]
   rw[zcF,zcF,d,h.bsAt k]
  rw[zbn,zbn,ih,c]
theorem zmX {b:List zi}(h:zbm b qs):zb8 b=zb8 qs:=by
 rw[zb8,zb8,h.length,zpR h]
variable {w':World}{ra:Option Addr}{rc:Nat}
theorem zkC (b ys:List zi)(h:zbm b ys):zat b=zat ys:=by
 have h':b.map (·.bs)=ys.map (·.bs):=h;clear h
 induction b generalizing ys with
 | nil=>cases ys with
  | nil=>rfl
  | cons y ys=>simp at h'
 | cons x b ih=>cases ys with
  | nil=>simp at h'
  | cons y ys=>
   simp only[List.map_cons,List.cons.injEq]at h';rw[zat,zat,h'.1,ih ys h'.2]
theorem zhX {d f:List zi}(b:zbm d bl)(c:zbm f pl):zaZ au rd d f=zaZ au rd bl pl:=by
 rw[zaZ,zaZ,zbh,zbh,zbh,zbh,zkC _ _ b,zkC _ _ c,b.length,c.length]
theorem zfk {d f:List zi}(b:zbm d bl)(c:zbm f pl):zO au rd d f=zO au rd bl pl:=by
 rw[zO,zO,zmX b,zmX c,b.length,c.length]
theorem zjK (h:zx w ra rc qs)(l:∀b c,ra=some ⟨b,c,none⟩->b<w.heap.size)(j:∀p∈qs,p.bs.length=32):Off w (O_) ra qs:=
 ⟨λb c e=>⟨l b c e,λh=>by cases h⟩,λp f b c e=>⟨by
  have m:=h.parts.each p f
  rcases m.bytes with d|⟨o,q,g,d⟩
  .have:=j p f;rw[d]at this;simp at this
  .rw[e]at g;cases g;exact bL_ (d 0 (by rw[j p f];decide)),λh=>by cases h⟩⟩
structure HAt (w:World)(ba:Option Addr)(bc:Nat)(bl:List zi)(pa:Option Addr)(pc:Nat)(pl:List zi):Prop where
 lb:zx w ba bc bl
 lp:zx w pa pc pl
 rb:∀sb so,ba=some ⟨sb,so,none⟩->sb<w.heap.size
 rp:∀sb so,pa=some ⟨sb,so,none⟩->sb<w.heap.size
theorem HAt.below {f:Option Addr}{g:Nat}{j:Option Addr}{l:Nat}(h:HAt w f g bl j l pl)(b:B_ w w'):HAt w' f g bl j l pl:=
 ⟨h.lb.below b,h.lp.below b,λc d e=>nL_ (h.rb c d e) b.size,λc d e=>nL_ (h.rp c d e) b.size⟩
def zaE (au rd:Int)(bl pl:List zi):List Int:=zhV 2 (zaZ au rd bl pl)
theorem zbD (au rd:Int)(bl pl:List zi):(zaE au rd bl pl).length=32:=zhW _ _
theorem zea {c:Option Addr}{d:Nat}{f:Option Addr}{g:Nat}(h:HAt w c d bl f g pl)(j:zO au rd bl pl=0)(o:zbJ w) :
  Calls prog 34 #[.agg #[I_ au,I_ rd,.slice c bl.length d,.slice f pl.length g]] w λe w'=>∃b,e=.returned (.tuple #[.slice (some ⟨b,0,none⟩) 32 32,I_ 0])/\w.heap.size<=b/\B_ w w'/\zg w' (some ⟨b,0,none⟩) 32 (zaE au rd bl pl):=by
 obtain⟨p,q,s,r,l,m⟩:=zbi j;exact zlu au rd c bl.length d bl f pl.length g pl w rfl rfl h.lb h.lp (zjK h.lb h.rb l) (zjK h.lp h.rp m) j p ⟨by omega,q.2⟩ (by omega) r l m o
variable {sa:Option Addr}{cap k:Nat}{r:Int}
structure Sl where
 au:Int
 rd:Int
 p:zi
abbrev srow_ (x:Sl):Array Value:=#[.int .i64 x.au,.int .i64 x.rd,.slice x.p.sa x.p.bs.length x.p.cap]
abbrev SV:=Int×Int×List Int
def Sl.v (s:Sl):SV:=(s.au,s.rd,s.p.bs)
def vs (ls:List Sl):List SV:=ls.map Sl.v
theorem zay (b:List Sl):(vs b).length=b.length:=by simp[vs]
def zd1 (l:List SV)(k:Nat):SV:=l.getD k (0,0,[])
theorem zhl (b:List Sl)(k:Nat)(h:k<b.length):zd1 (vs b) k=(b[k]).v:=by simp[zd1,vs,h]
def hit (l:List SV)(au rd:Int)(j:Nat):Bool:=decide ((zd1 l j).1=au/\(zd1 l j).2.1=rd)
theorem zwW (b:List Sl)(au rd:Int)(k:Nat)(h:k<b.length):hit (vs b) au rd k=decide ((b[k]).au=au/\(b[k]).rd=rd):=by rw[hit,zhl b k h];rfl
def zhC (l:List SV)(au rd:Int)(k:Nat)(r:Int):Prop:=(∃m:Nat,m<k/\r=m/\hit l au rd m=true/\∀j,j<m->hit l au rd j=false)\/(r=-1/\∀j,j<k->hit l au rd j=false)
def zff (l:List SV)(au rd:Int)(k:Nat):Bool:=(List.range k).any (hit l au rd)
theorem zhC.neg {l:List SV}(h:zhC l au rd k r):(zff l au rd k=true/\0<=r)\/(zff l au rd k=false/\r=-1):=by
 rcases h with⟨m,f,rfl,b,_⟩|⟨rfl,c⟩
 .refine .inl ⟨?_,by omega⟩;simp only[zff,List.any_eq_true];exact⟨m,by simpa using f,b⟩
 .refine .inr ⟨?_,rfl⟩;simp only[zff,List.any_eq_false];intro j d;rw[c j (by simpa using d)];simp
def zeD (l:List SV)(k:Nat):Bool:=decide (zbf (zd1 l k).1 (zd1 l k).2.1 (zd1 l k).2.2.length≠0)||zff l (zd1 l k).1 (zd1 l k).2.1 k
def zdt (l:List SV):Int:=if 400<l.length\/(List.range l.length).any (zeD l)=true then 12 else 0
theorem zth (l:List SV)(h:400<l.length):zdt l=12:=by simp[zdt,h]
theorem zvi (l:List SV)(k:Nat)(b:k<l.length)(h:zeD l k=true):zdt l=12:=by
 rw[zdt,if_pos]
 right
 simp only[List.any_eq_true];exact⟨k,by simpa using b,h⟩
theorem zwX (l:List SV)(c:l.length<=400)(h:∀k,k<l.length->zeD l k=false):zdt l=0:=by
 rw[zdt,if_neg];rintro(g|g)
 .omega
 .simp only[List.any_eq_true]at g;obtain⟨k,b,e⟩:=g;rw[h k (by simpa using b)]at e;cases e
theorem zmY {l:List SV}(h:zdt l=0):l.length<=400/\∀k,k<l.length->zeD l k=false:=by
 rw[zdt]at h
 split at h
 .cases h
 .rename_i g
  refine⟨by omega,λk b=>?_⟩;cases e:zeD l k with
  | false=>rfl
  | true=>exact absurd (.inr (List.any_eq_true.2 ⟨k,by simpa using b,e⟩)) g
theorem zwY (l:List SV):zdt l=0\/zdt l=12:=by
 rw[zdt];split
 .exact .inr rfl
 .exact .inl rfl
structure zgb (w:World)(sa:Option Addr)(ls:List Sl):Prop where
 cells:ls=[]\/∃sb so,sa=some ⟨sb,so,none⟩/\∀j (h:j<ls.length),w.cell? ⟨sb,so+j*3,none⟩=some (I_ (ls[j]).au)/\w.cell? ⟨sb,so+j*3+1,none⟩=some (I_ (ls[j]).rd)/\w.cell? ⟨sb,so+j*3+2,none⟩=some (.slice (ls[j]).p.sa (ls[j]).p.bs.length (ls[j]).p.cap)
 each:∀s∈ls,zg w s.p.sa s.p.cap s.p.bs
theorem zgb.below {m:List Sl}(h:zgb w sa m)(b:B_ w w'):zgb w' sa m:=by
 refine⟨?_,λp r=>(h.each p r).below b⟩;rcases h.cells with h|⟨c,d,rfl,o⟩
 .exact .inl h
 .refine .inr ⟨c,d,rfl,λj q=>?_⟩;obtain⟨f,g,l⟩:=o j q;exact⟨(b.cell (p:=⟨c,d+j*3,none⟩) (block_lt_of_cell f)).trans f,(b.cell (p:=⟨c,d+j*3+1,none⟩) (block_lt_of_cell g)).trans g,(b.cell (p:=⟨c,d+j*3+2,none⟩) (block_lt_of_cell l)).trans l⟩
structure zeb (w:World)(sa:Option Addr)(cap:Nat)(ls:List Sl):Prop where
 le:ls.length<=cap
 max:cap<=9223372036854775807
 small:ls.length<=3000000000000000000
 some:cap=0\/∃sb so,sa=some ⟨sb,so,none⟩
 slots:zgb w sa ls
theorem zeb.below {b:List Sl}(h:zeb w sa cap b)(c:B_ w w'):zeb w' sa cap b:=⟨h.le,h.max,h.small,h.some,h.slots.below c⟩
theorem zk0:(prog.info? 53).map (λi=>(i.zero,i.size,i.bytes))=some (some (.agg #[I_ 0,I_ 0,O_]),3,40):=by kernel_rfl
def Sl.cs (s:Sl):List Value:=[I_ s.au,I_ s.rd,.slice s.p.sa s.p.bs.length s.p.cap]
def slv:List Sl->List Value
 | []=>[]
 | s::r=>s.cs++slv r
theorem zki (b:List Sl)(s:Sl):slv (b++[s])=slv b++s.cs:=by
 induction b with
 | nil=>simp[slv]
 | cons x r ih=>simp[slv,ih]
theorem zrs (b:List Sl):(slv b).length=b.length*3:=by
 induction b with
 | nil=>rfl
 | cons x r ih=>simp[slv,ih,Sl.cs];omega
theorem zti (b:List Sl)(j i:Nat)(h:j<b.length)(c:i<3):(slv b)[j*3+i]? = (b[j]).cs[i]?:=by
 induction b generalizing j with
 | nil=>cases h
 | cons x r ih=>
  cases j with
  | zero=>simp only[slv,Nat.zero_mul,Nat.zero_add,List.getElem_cons_zero];rw[List.getElem?_append_left (by simp[Sl.cs];exact c)]
  | succ j=>
   have h':j<r.length:=by simpa using h
   simp only[slv,List.getElem_cons_succ];rw[List.getElem?_append_right (by simp[Sl.cs];omega),<-ih j h']
   congr 1
   simp[Sl.cs];omega
def ps (ls:List Sl):List zi:=ls.map Sl.p
theorem zkD {v:Value}{b:List Sl}(h:w.ownsRow base 53 3 v n (slv b))(f:z8 w base v (ps b)):∃d rc,v=.slice d n rc/\n=b.length/\(n<=3000000000000000000->zeb w d rc b)/\za1 base d (ps b):=by
 have C:n=b.length:=by have:=h.1;rw[zrs]at this;omega
 rcases h.2 with⟨rfl,D⟩|⟨g,q,F,rfl,l⟩
 .have z:b=[]:=eN_ (by omega);subst D z;exact⟨none,0,rfl,rfl,λ_=>⟨nR_ _,by decide,by decide,.inl rfl,⟨.inl rfl,λp c=>by cases c⟩⟩,⟨(λ_ _ e=>by cases e),(λp c=>by cases c)⟩⟩
 .refine⟨some ⟨g,0,none⟩,q,rfl,C,λH=>⟨?_,?_,by omega,.inr ⟨g,0,rfl⟩,⟨.inr ⟨g,0,rfl,λj B=>?_⟩,λs E=>(f s.p (List.mem_map.2 ⟨s,E,rfl⟩)).1⟩⟩,⟨(λm o e=>by cases e;exact(h.lt _ rfl).1),(λp c m o e=>((f p c).2 m o e).1)⟩⟩
  .obtain⟨_,_,G,_⟩:=l;omega
  .obtain⟨_,_,_,y,_⟩:=l;exact y
  .have e:∀i,i<3->w.cell? ⟨g,j*3+i,none⟩=(b[j]).cs[i]?:=λi A=>by rw[World.ownsRow.cellAt h (j*3+i) (by omega),zti b j i B A]
   have r:=e 0 (by omega);have t:=e 1 (by omega);have u:=e 2 (by omega);exact⟨by simpa[Sl.cs]using r,by simpa[Sl.cs]using t,by simpa[Sl.cs]using u⟩
variable {B:Nat}{l:List SV}
def zbp (l:List SV)(au rd:Int):Nat->Option Nat
 | 0=>none
 | k+1=>match zbp l au rd k with
  | some m=>some m
  | none=>if hit l au rd k=true then some k else none
theorem zkE (h:∀j,j<k->hit l au rd j=false):zbp l au rd k=none:=by
 induction k with
 | zero=>rfl
 | succ k ih=>rw[zbp,ih (λj b=>h j (by omega))];simp[h k (by omega)]
theorem zpS {m:Nat}(d:m<k)(b:hit l au rd m=true)(c:∀j,j<m->hit l au rd j=false):zbp l au rd k=some m:=by
 induction k with
 | zero=>omega
 | succ k ih=>
  rcases Nat.lt_or_ge m k with g|g
  .rw[zbp,ih g]
  .obtain rfl:m=k:=by omega
   rw[zbp,zkE c];simp[b]
theorem zhC.found (h:zhC l au rd k r):(∃m:Nat,m<k/\r=m/\zbp l au rd k=some m)\/(r=-1/\zbp l au rd k=none):=by
 rcases h with⟨m,c,rfl,d,b⟩|⟨rfl,b⟩
 .exact .inl ⟨m,c,rfl,zpS c d b⟩
 .exact .inr ⟨rfl,zkE b⟩
def za6 (l:List SV)(s:SV):List SV×Int:=match zbp l s.1 s.2.1 l.length with
 | some m=>if txL (zd1 l m).2.2=txL s.2.2 then(l,0)else([],7)
 | none=>if 400<=l.length then([],6)else(l++[s],0)
theorem ziG {s:SV}{m:Nat}(h:zbp l s.1 s.2.1 l.length=some m)(b:txL (zd1 l m).2.2=txL s.2.2):za6 l s=(l,0):=by rw[za6,h];exact if_pos b
theorem zhY {s:SV}{m:Nat}(h:zbp l s.1 s.2.1 l.length=some m)(b:¬txL (zd1 l m).2.2=txL s.2.2):za6 l s=([],7):=by rw[za6,h];exact if_neg b
theorem ziH {s:SV}(h:zbp l s.1 s.2.1 l.length=none)(b:400<=l.length):za6 l s=([],6):=by rw[za6,h];exact if_pos b
theorem zjL {s:SV}(h:zbp l s.1 s.2.1 l.length=none)(b:¬400<=l.length):za6 l s=(l++[s],0):=by rw[za6,h];exact if_neg b
theorem zeb.setCell {o:List Sl}(h:zeb w ra rc o)(p:za1 B ra (ps o))(b j:Nat)(v:Value)(r:b<B):zeb (w.setCell ⟨b,j,none⟩ v) ra rc o:=by
 refine⟨h.le,h.max,h.small,h.some,⟨?_,λs q=>?_⟩⟩
 .rcases h.slots.cells with c|⟨d,l,rfl,c⟩
  .exact .inl c
  .have m:b≠d:=by have:=p.row d l rfl;omega
   exact .inr ⟨d,l,rfl,λk f=>⟨(World.cell?_setCell_far _ _ _ _ m).trans (c k f).1,(World.cell?_setCell_far _ _ _ _ m).trans (c k f).2.1,(World.cell?_setCell_far _ _ _ _ m).trans (c k f).2.2⟩⟩
 .have g:=h.slots.each s q;refine⟨g.le,g.max,g.some,g.nil,?_⟩;rcases g.bytes with c|⟨d,l,e,c⟩
  .exact .inl c
  .exact .inr ⟨d,l,e,λk f=>(World.cell?_setCell_far _ _ _ _ (by have:=p.each s.p (List.mem_map.2 ⟨s,q,rfl⟩) d l e;show b≠d;omega)).trans (c k f)⟩
theorem zfu (h:zg w ra rc bs)(g:∀c d,ra=some ⟨c,d,none⟩->B<=c)(b j:Nat)(v:Value)(m:b<B):zg (w.setCell ⟨b,j,none⟩ v) ra rc bs:=by
 refine⟨h.le,h.max,h.some,h.nil,?_⟩;rcases h.bytes with f|⟨c,d,e,f⟩
 .exact .inl f
 .exact .inr ⟨c,d,e,λk l=>(World.cell?_setCell_far _ _ _ _ (by have:=g c d e;show b≠c;omega)).trans (f k l)⟩
theorem zkj (w:World):zeb w none 0 []:=⟨nR_ _,by decide,by decide,.inl rfl,⟨.inl rfl,λp b=>by cases b⟩⟩
theorem zjM (B:Nat):za1 B none (ps []):=⟨(λ_ _ e=>by cases e),(λp b=>by cases b)⟩
theorem ziI {d:Nat}(h:za1 B ra qs)(f:d<=B):za1 d ra qs:=⟨λb c e=>nT_ f (h.row b c e),λp g b c e=>nT_ f (h.each p g b c e)⟩
theorem zy0 {b:List Sl}(h:zdt (vs b)=0):∀s∈b,s.p.bs.length<=140737488355328:=λs j=>by
 obtain⟨m,g,rfl⟩:=List.getElem_of_mem j
 have d:=(zmY h).2 m (by rw[zay];exact g)
 rw[zeD,zhl b m g]at d
 simp only[Bool.or_eq_false_iff]at d
 have c:zbf (b[m]).au (b[m]).rd (b[m]).p.bs.length=0:=by have f:=d.1;simp only[ne_eq,decide_eq_false_iff_not,Decidable.not_not]at f;exact f
 unfold zbf at c
 split at c
 .cases c
 .split at c
  .cases c
  .omega
end Go.Proofs.YtdnaljbnebnlhaaGreatDoor
