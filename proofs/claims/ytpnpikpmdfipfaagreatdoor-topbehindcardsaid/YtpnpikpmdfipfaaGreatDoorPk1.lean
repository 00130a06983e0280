import Derived.Test.YtpnpikpmdfipfaaGreatDoorPk0
import Derived.Deep.DeepCutAuto
set_option maxRecDepth 100000
set_option maxHeartbeats 4000000
namespace Go.Proofs.YtpnpikpmdfipfaaGreatDoor
open Go.RowKit Tryz
variable {w w':World}{sa:Q_}
structure zi where
 sa:Q_
 cap:Nat
 bs:L_
def zi.val (p:zi):Value:=.slice p.sa p.bs.length p.cap
structure zbT (w:World)(sa:Q_)(ps:List zi):Prop where
 cells:ps=[]\/∃sb so,sa=some (p_ sb so)/\∀j (h:j<ps.length),w.cell? (p_ sb (so+j))=some (.slice (ps[j]).sa (ps[j]).bs.length (ps[j]).cap)
 each:∀p∈ps,zg w p.sa p.cap p.bs
theorem zbT.below {f:List zi}(h:zbT w sa f)(b:B_ w w'):zbT w' sa f:=by
 refine⟨?_,λp m=>(h.each p m).below b⟩;rcases h.cells with h|⟨g,l,rfl,c⟩;exact .inl h;exact .inr ⟨g,l,rfl,λj d=>(b.cell (p:=p_ g (l+j)) (block_lt_of_cell (c j d))).trans (c j d)⟩
variable {cap:Nat}
structure zx (w:World)(sa:Q_)(cap:Nat)(ps:List zi):Prop where
 le:ps.length<=cap
 max:cap<=9223372036854775807
 small:ps.length<=9000000000000000000
 some:cap=0\/∃sb so,sa=some (p_ sb so)
 parts:zbT w sa ps
theorem zx.below {b:List zi}(h:zx w sa cap b)(c:B_ w w'):zx w' sa cap b:=⟨h.le,h.max,h.small,h.some,h.parts.below c⟩
variable {vl:L_}{va:Q_}
structure zax (w:World)(va:Q_)(vl:L_):Prop where
 cells:vl=[]\/∃sb so,va=some (p_ sb so)/\∀j,j<vl.length->w.cell? (p_ sb (so+j))=some (I_ (vl.getD j 0))
theorem zax.below (h:zax w va vl)(g:B_ w w'):zax w' va vl:=by
 refine⟨?_⟩;rcases h.cells with h|⟨d,f,rfl,b⟩;exact .inl h;exact .inr ⟨d,f,rfl,λj c=>(g.cell (p:=p_ d (f+j)) (block_lt_of_cell (b j c))).trans (b j c)⟩
def txL (bs:L_):List UInt8:=(zai bs).toList
theorem zeI (b ys:L_)(f g:Q_)(n m c d:Nat)(w:World)(p:n=b.length)(o:m=ys.length)(j:zg w f c b)(l:zg w g d ys) :
  Calls prog 143 #[.slice f n c,.slice g m d] w λe w'=>e=.returned (.bool (decide (txL b=txL ys)))/\w=w':=by
 have q:=zd8 w f n c b p j;have r:=zd8 w g m d ys o l;clear p o j l;unfold txL;generalize zai b=A at*;generalize zai ys=B at*;go_in;go_wp2_with fail
 go_ret;refine⟨zN ?_,rfl⟩;by_cases h:A.toList=B.toList<;>simp[h]
def zcT (ps:List zi)(k:Nat):zi:=ps.getD k ⟨none,0,[]⟩
theorem zgQ (b:List zi)(k:Nat)(h:k<b.length):zcT b k=b[k]:=by simp[zcT,h]
def zgm (ps:List zi)(k:Nat):Bool:=(List.range k).any λj=>decide (txL (zcT ps j).bs=txL (zcT ps k).bs)
def zcF (ps:List zi)(k:Nat):Int:=if(zcT ps k).bs.length≠32 then 4 else if zgm ps k then 7 else 0
def zbn (ps:List zi):Nat->Int
 | 0=>0
 | k+1=>if zbn ps k≠0 then zbn ps k else zcF ps k
def zb8 (ps:List zi):Int:=zbn ps ps.length
theorem zn7 (b:List zi)(k m:Nat)(h:zbn b k≠0)(c:k<=m):zbn b m=zbn b k:=by
 induction m with
 | zero=>
  obtain rfl:k=0:=by omega
  rfl
 | succ m ih=>
  rcases lG_ k (m+1)with g|g;rw[zbn,ih (by omega),iP_ h];obtain rfl:k=m+1:=by omega
  rfl
theorem zwQ (b:List zi)(k:Nat)(d:k<b.length)(c:zbn b k=0)(h:zcF b k≠0):zb8 b=zcF b k:=by
 have e:zbn b (k+1)=zcF b k:=by rw[zbn,c];simp
 rw[zb8,zn7 b (k+1) b.length (by rw[e];exact h) d,e]
theorem zn8 (b ys:L_)(f j:Q_)(n m c d g:Nat)(w:World)(r:n=b.length)(q:m=ys.length)(l:zg w f c b)(o:zg w j d ys)(s:C_ w g 0 (.slice j m d)) :
  Calls prog 190 #[.slice f n c,(P_ g 0)] w λe w'=>e=.returned (.bool (decide (txL b=txL ys)))/\w=w':=by
 go_in;go_wp2_with fail
 refine(zeI b ys _ _ _ _ _ _ w (by first|exact r|rfl) (by first|exact q|rfl) l o).mono ?_;rintro _ t⟨rfl,rfl⟩;dsimp only;go_wp2_with fail
 go_ret;exact⟨rfl,rfl⟩
def zb9 (rd:Int)(n:Nat):Int:=if(rd=1/\0<n)\/(1<rd/\n<3)then 10 else 0
def zO (au rd:Int)(bl pl:List zi):Int:=if ¬(0<=au/\au<4)\/¬(1<=rd/\rd<=1048576)then 2 else if 3<bl.length\/4<pl.length then 1 else if zb8 bl≠0 then zb8 bl else if zb8 pl≠0 then zb8 pl else zb9 rd pl.length
def zbf (au rd:Int)(n:Nat):Int:=if ¬(0<=au/\au<4)\/¬(1<=rd/\rd<=1048576)then 2 else if n≠32 then 4 else 0
theorem zgC (au rd:Int)(d:Q_)(n c:Nat)(w:World) :
  Calls prog 113 #[.agg #[I_ au,I_ rd,.slice d n c]] w λe w'=>e=.returned (I_ (zbf au rd n))/\B_ w w':=by
 by_cases ha:0<=au/\au<4
 .by_cases hr:1<=rd/\rd<=1048576
  .by_cases hn:n=32;subst hn;have b:Hid (zbf au rd 32=0):=by show _=_;simp[zbf,ha,hr]
   rotate_left
   have b:Hid (zbf au rd n=4):=by show _=_;simp[zbf,ha,hr,hn]
   have f:¬(n:Int)=32:=by omega
   rotate_left
   all_goals
    go_in;go_wp2_with (first|(go_at_call 63;refine(zeq _ true _ (by simp[ha])).mono ?_;rintro e w'⟨rfl,rfl⟩)|(go_at_call 115;refine(zdX _ true _ (by simp[hr])).mono ?_;rintro e w'⟨rfl,rfl⟩))
    go_ret;exact⟨zt b.out.symm,(bR_ _ _).alloc (nR_ _) _⟩
  have b:Hid (zbf au rd n=2):=by show _=_;simp[zbf,hr]
  go_in;go_wp2_with (first|(go_at_call 63;refine(zeq _ true _ (by simp[ha])).mono ?_;rintro e w'⟨rfl,rfl⟩)|(go_at_call 115;refine(zdX _ false _ (by simp[hr])).mono ?_;rintro e w'⟨rfl,rfl⟩))
  go_ret;exact⟨zt b.out.symm,(bR_ _ _).alloc (nR_ _) _⟩
 have b:Hid (zbf au rd n=2):=by show _=_;simp[zbf,ha]
 go_in;go_wp2_with (first|(go_at_call 63;refine(zeq _ false _ (by simp[ha])).mono ?_;rintro e w'⟨rfl,rfl⟩)|(go_at_call 115;refine(zdX _ true _ (by simp[hr])).mono ?_;rintro e w'⟨rfl,rfl⟩))
 go_ret;exact⟨zt b.out.symm,(bR_ _ _).alloc (nR_ _) _⟩
def vAt (vl:L_)(k:Nat):Int:=if ¬(0<=vl.getD k 0/\vl.getD k 0<4)then 2 else if 0<k/\vl.getD k 0<=vl.getD (k-1) 0 then 9 else 0
def vTo (vl:L_):Nat->Int
 | 0=>0
 | k+1=>if vTo vl k≠0 then vTo vl k else vAt vl k
theorem zs4 (vl:L_)(k m:Nat)(h:vTo vl k≠0)(b:k<=m):vTo vl m=vTo vl k:=by
 induction m with
 | zero=>
  obtain rfl:k=0:=by omega
  rfl
 | succ m ih=>
  rcases lG_ k (m+1)with g|g;rw[vTo,ih (by omega),iP_ h];obtain rfl:k=m+1:=by omega
  rfl
theorem zxW (vl:L_)(k:Nat)(c:k<vl.length)(b:vTo vl k=0)(h:vAt vl k≠0):vTo vl vl.length=vAt vl k:=by
 have e:vTo vl (k+1)=vAt vl k:=by rw[vTo,b];simp
 rw[zs4 vl (k+1) vl.length (by rw[e];exact h) c,e]
def zep (vl:L_):Int:=if vTo vl vl.length≠0 then vTo vl vl.length else if vl.length<3 then 10 else 0
def zap (au rd:Int)(bl pl:List zi)(vl:L_):Int:=if zO au rd bl pl≠0 then zO au rd bl pl else if 4<vl.length then 1 else zep vl
variable {ss:Z_}{pl bl cbl cpl:List zi}
structure zeX (w:World)(m:Msg)(ss:Z_)(bl pl cbl cpl:List zi)(vl:L_):Prop where
 e1:m.btn=ss.length
 e2:m.hbn=bl.length
 e3:m.hpn=pl.length
 e4:m.cbn=cbl.length
 e5:m.cpn=cpl.length
 e6:m.cvn=vl.length
 s1:ss.length<=9000000000000000000
 s6:vl.length<=9000000000000000000
 s7:m.sdn<=9000000000000000000
 txs:zas w m.bta ss
 bat:zx w m.hba m.hbc bl
 par:zx w m.hpa m.hpc pl
 cbat:zx w m.cba m.cbc cbl
 cpar:zx w m.cpa m.cpc cpl
 vot:zax w m.cva vl
theorem zeX.below {m:Msg}(h:zeX w m ss bl pl cbl cpl vl)(b:B_ w w'):zeX w' m ss bl pl cbl cpl vl:=⟨h.e1,h.e2,h.e3,h.e4,h.e5,h.e6,h.s1,h.s6,h.s7,h.txs.below b,h.bat.below b,h.par.below b,h.cbat.below b,h.cpar.below b,h.vot.below b⟩
def zD (m:Msg)(ss:Z_)(bl pl cbl cpl:List zi)(vl:L_):Int:=if m.ki=1 then zbk m.bau m.bnu ss else if m.ki=2 then zO m.hau m.hrd bl pl else if m.ki=3 then zbf m.sau m.srd m.sdn else if m.ki=4 then zap m.cau m.crd cbl cpl vl else if m.ki=5 then(if 1<=m.ro/\m.ro<=1048576 then 0 else 2)else 3
variable {n B base rc:Nat}{qs:List zi}{w2:World}{ra:Q_}{xs:List Value}{v1:Value}
theorem zhc:(prog.info? 61).map (λi=>(i.zero,i.size,i.bytes))=some (some (O_),1,24):=by kernel_rfl
def pv (ps:List zi):List Value:=ps.map zi.val
theorem zs3 (b:List zi):(pv b).length=b.length:=by simp[pv]
def zbm (ps qs:List zi):Prop:=ps.map (·.bs)=qs.map (·.bs)
theorem zbm.length {b:List zi}(h:zbm b qs):b.length=qs.length:=by simpa using congrArg List.length h
def z8 (w:World)(B:Nat)(v:Value)(ps:List zi):Prop:=∀p∈ps,zg w p.sa p.cap p.bs/\∀sb so,p.sa=some (p_ sb so)->B<=sb/\sb<w.heap.size/\v.ownBlock≠some sb
structure za1 (B:Nat)(ra:Q_)(qs:List zi):Prop where
 row:∀sb so,ra=some (p_ sb so)->B<=sb
 each:∀p∈qs,∀sb so,p.sa=some (p_ sb so)->B<=sb
theorem zx.setCell (h:zx w ra rc qs)(m:za1 B ra qs)(b j:Nat)(v:Value)(q:b<B):zx (w.setCell ⟨b,j,Option.none⟩ v) ra rc qs:=by
 refine⟨h.le,h.max,h.small,h.some,⟨?_,λp o=>?_⟩⟩;rcases h.parts.cells with c|⟨d,g,rfl,c⟩;exact .inl c;exact .inr ⟨d,g,rfl,λk l=>(World.cell?_setCell_far _ _ _ _ (by have:=m.row d g rfl;show b≠d;omega)).trans (c k l)⟩;have f:=h.parts.each p o;refine⟨f.le,f.max,f.some,f.nil,?_⟩;rcases f.bytes with c|⟨d,g,e,c⟩;exact .inl c;exact .inr ⟨d,g,e,λk l=>(World.cell?_setCell_far _ _ _ _ (by have:=m.each p o d g e;show b≠d;omega)).trans (c k l)⟩
theorem zcI {v:Value}{c:List zi}(h:w.ownsRow base 61 1 v n (pv c))(f:z8 w base v c):∃d rc,v=.slice d n rc/\n=c.length/\(n<=9000000000000000000->zx w d rc c)/\za1 base d c:=by
 have u:n=c.length:=by have:=h.1;rw[zs3]at this;omega
 rcases h.2 with⟨rfl,y⟩|⟨g,q,z,rfl,l⟩;have s:c=[]:=List.eq_nil_of_length_eq_zero (by omega);subst y s;exact⟨none,0,rfl,rfl,λ_=>⟨Nat.le_refl _,by decide,by decide,.inl rfl,⟨.inl rfl,λp b=>by cases b⟩⟩,⟨(λ_ _ e=>by cases e),(λp b=>by cases b)⟩⟩;refine⟨some (p_ g 0),q,rfl,u,λB=>⟨?_,?_,by omega,.inr ⟨g,0,rfl⟩,⟨.inr ⟨g,0,rfl,λj t=>?_⟩,λp b=>(f p b).1⟩⟩,⟨(λm o e=>by cases e;exact(h.lt _ rfl).1),(λp b m o e=>((f p b).2 m o e).1)⟩⟩;obtain⟨_,_,A,_⟩:=l;omega;obtain⟨_,_,_,r,_⟩:=l;exact r;rw[Nat.zero_add,World.ownsRow.cellAt h j (by omega)];simp[pv,zi.val,t]
theorem zw {e:TypeId}{s:Nat}{v:Value}(h:w.ownsRow base e s v n xs)(l:B_ w w'):w'.ownsRow base e s v n xs:=by
 have j:=λq e=>(h.lt q e).2;obtain⟨f,b⟩:=h;refine⟨f,?_⟩;rcases b with b|⟨g,c,d,rfl,o,m,r⟩;exact .inl b;exact .inr ⟨g,c,d,rfl,o,(l.block g (j g rfl)).trans m,r⟩
theorem zu2 (w:World):zg w none 0 []:=⟨Nat.le_refl _,by decide,.inl rfl,λ_=>rfl,.inl rfl⟩
theorem z8.more_at {y:World}{v:Value}{q:zi}{o:Obj}{F:Nat}{e:TypeId}(h:z8 w B v qs)(J:B<=w.heap.size)(A:w.ownsRow B e F v n xs)(s:B_ w w2)
  (C:∀b c,q.sa=some (p_ b c)->w.heap.size<=b/\b<w2.heap.size) (E:zg w2 q.sa q.cap q.bs) (G:zV (w2.alloc o) v y v1):z8 y B v1 (qs++[q]):=by
 have m:B_ w2 (w2.alloc o):=(Below.refl _ _).alloc (Nat.le_refl _) _;have L:w2.heap.size<(w2.alloc o).heap.size:=by rw[zG];omega
 have I:=G.grown.size;have H:=s.size;intro p d;rcases List.mem_append.1 d with d|d;obtain⟨D,r⟩:=h p d;refine⟨G.slice ((D.below s).below m) (λb c e=>(r b c e).2.2),λb c e=>?_⟩;obtain⟨l,z,j⟩:=r b c e;refine⟨l,by omega,λf=>?_⟩;rcases G.fresh b f with g|g;exact j g;omega;obtain rfl:p=q:=by simpa using d
 have u:∀b c,p.sa=some (p_ b c)->w.heap.size<=b/\b<w2.heap.size/\v.ownBlock≠some b:=λb c e=>by
  have t:=C b c e;exact⟨t.1,t.2,λf=>by have:=(A.lt b f).2;omega⟩
 refine⟨G.slice (E.below m) (λb c e=>(u b c e).2.2),λb c e=>?_⟩;obtain⟨l,z,j⟩:=u b c e;refine⟨by omega,by omega,λf=>?_⟩;rcases G.fresh b f with g|g;exact j g;omega
theorem zH {e:TypeId}{s:Nat}{v:Value}(h:w.ownsRow base e s v n xs):∃d f,v=.slice d n f:=by
 rcases h.2 with⟨rfl,c⟩|⟨g,b,j,rfl,_⟩;subst c;exact⟨none,0,rfl⟩;exact⟨some (p_ g 0),b,rfl⟩
theorem zQ {e:TypeId}{s:Nat}{v:Value}(h:w.ownsRow base e s v n xs)(b j:Nat)(x:Value)(p:b<base):(w.setCell (p_ b j) x).ownsRow base e s v n xs:=by
 obtain⟨l,c⟩:=h;refine⟨l,?_⟩;rcases c with c|⟨g,d,f,rfl,o,m,r⟩;exact .inl c;exact .inr ⟨g,d,f,rfl,o,(hO_ w (p_ b j) g x (by show g≠b;omega)).trans m,r⟩
def iv (vl:L_):List Value:=vl.map (Value.int .i64)
theorem zmS (vl:L_):(iv vl).length=vl.length:=by simp[iv]
theorem zs5 (vl:L_):∀u∈iv vl,u.oneCell'=true:=by
 intro u b;simp[iv]at b;obtain⟨x,_,rfl⟩:=b;rfl
theorem zeW {v:Value}(h:w.ownsRow base 3 1 v n (iv vl)):∃c q,v=.slice c n q/\n=vl.length/\zax w c vl/\∀b d,c=some (p_ b d)->base<=b:=by
 have o:n=vl.length:=by have:=h.1;rw[zmS]at this;omega
 rcases h.2 with⟨rfl,p⟩|⟨g,f,r,rfl,_⟩;have l:vl=[]:=List.eq_nil_of_length_eq_zero (by omega);subst p l;exact⟨none,0,rfl,rfl,⟨.inl rfl⟩,λ_ _ e=>by cases e⟩;refine⟨some (p_ g 0),f,rfl,o,⟨.inr ⟨g,0,rfl,λj m=>?_⟩⟩,λb d e=>by cases e;exact(h.lt _ rfl).1⟩;rw[Nat.zero_add,World.ownsRow.cellAt h j (by omega)];simp[iv,m]
theorem zax.setCell (h:zax w va vl)(b j:Nat)(v:Value)(l:∀c d,va=some (p_ c d)->b≠c):zax (w.setCell (p_ b j) v) va vl:=by
 refine⟨?_⟩;rcases h.cells with h|⟨c,d,rfl,f⟩;exact .inl h;exact .inr ⟨c,d,rfl,λk g=>(World.cell?_setCell_far _ _ _ _ (l c d rfl)).trans (f k g)⟩
structure ziF (B:Nat)(m:Msg)(bl pl cbl cpl:List zi):Prop where
 tx:∀sb so,m.bta=some (p_ sb so)->B<=sb
 hb:za1 B m.hba bl
 hp:za1 B m.hpa pl
 sd:∀sb so,m.sda=some (p_ sb so)->B<=sb
 cb:za1 B m.cba cbl
 cp:za1 B m.cpa cpl
 cv:∀sb so,m.cva=some (p_ sb so)->B<=sb
theorem zgD (w:World):zg w none 0 []:=⟨nR_ _,by decide,.inl rfl,λ_=>rfl,.inl rfl⟩
structure U8M (bl pl cbl cpl:List zi)(ds:L_):Prop where
 hb:∀p∈bl,∀x∈p.bs,0<=x/\x<=255
 hp:∀p∈pl,∀x∈p.bs,0<=x/\x<=255
 cb:∀p∈cbl,∀x∈p.bs,0<=x/\x<=255
 cp:∀p∈cpl,∀x∈p.bs,0<=x/\x<=255
 sd:∀x∈ds,0<=x/\x<=255
theorem zaj (w:World):zx w none 0 []:=⟨nR_ _,by decide,by decide,.inl rfl,⟨.inl rfl,λp b=>by cases b⟩⟩
variable {bs:L_}{G:Nat->Prop}
structure MV where
 (m:Msg) (ss:Z_) (bl pl cbl cpl:List zi) (ds vl:L_)
def MV.car (x:MV):Int:=zD x.m x.ss x.bl x.pl x.cbl x.cpl x.vl
structure zgE (G:Nat->Prop)(ra:Q_)(qs:List zi):Prop where
 row:∀sb so,ra=some (p_ sb so)->qs≠[]->G sb
 each:∀p∈qs,∀sb so,p.sa=some (p_ sb so)->p.bs≠[]->G sb
structure zbU (G:Nat->Prop)(x:MV):Prop where
 tx:∀sb so,x.m.bta=some (p_ sb so)->x.ss≠[]->G sb
 hb:zgE G x.m.hba x.bl
 hp:zgE G x.m.hpa x.pl
 sd:∀sb so,x.m.sda=some (p_ sb so)->x.ds≠[]->G sb
 cb:zgE G x.m.cba x.cbl
 cp:zgE G x.m.cpa x.cpl
 cv:∀sb so,x.m.cva=some (p_ sb so)->x.vl≠[]->G sb
structure MAt (w:World)(x:MV):Prop where
 at':zeX w x.m x.ss x.bl x.pl x.cbl x.cpl x.vl
 dig:zg w x.m.sda x.m.sdc x.ds
 dn:x.m.sdn=x.ds.length
structure zaT (x:MV):Prop where
 car:x.car=0
 emp:zaq (zab x.m)=true
 fr:x.m.fr=0
 tt:x.m.tt=0
 ki:x.m.ki≠5
theorem MAt.below {x:MV}(h:MAt w x)(b:B_ w w'):MAt w' x:=⟨h.at'.below b,h.dig.below b,h.dn⟩
theorem zgE.mono {d:Nat->Prop}(h:zgE G ra qs)(f:∀k,G k->d k):zgE d ra qs:=⟨λb c e n=>f _ (h.row b c e n),λp g b c e n=>f _ (h.each p g b c e n)⟩
theorem zbU.mono {f:Nat->Prop}{x:MV}(h:zbU G x)(b:∀k,G k->f k):zbU f x:=
 ⟨λc d e n=>b _ (h.tx c d e n),h.hb.mono b,h.hp.mono b,λc d e n=>b _ (h.sd c d e n),h.cb.mono b,h.cp.mono b,λc d e n=>b _ (h.cv c d e n)⟩
theorem ziF.has {x:MV}(h:ziF B x.m x.bl x.pl x.cbl x.cpl):zbU (λk=>B<=k) x:=
 ⟨λb c e _=>h.tx b c e,⟨λb c e _=>h.hb.row b c e,λp d b c e _=>h.hb.each p d b c e⟩,⟨λb c e _=>h.hp.row b c e,λp d b c e _=>h.hp.each p d b c e⟩,λb c e _=>h.sd b c e,⟨λb c e _=>h.cb.row b c e,λp d b c e _=>h.cb.each p d b c e⟩,⟨λb c e _=>h.cp.row b c e,λp d b c e _=>h.cp.each p d b c e⟩,λb c e _=>h.cv b c e⟩
theorem zdA {α:Type}{l:List α}(h:l≠[]):0<l.length:=by cases l with|nil=>exact absurd rfl h|cons _ _=>simp
theorem zhh (h:zg w sa cap bs)(c:bs≠[]){d j:Nat}(e:sa=some (p_ d j)):d<w.heap.size:=by
 rcases h.bytes with f|⟨l,m,b,g⟩;exact absurd f c;rw[e]at b;cases b;exact bL_ (g 0 (zdA c))
theorem zgE.lt (h:zgE G ra qs)(H:zx w ra rc qs):zgE (λk=>G k/\k<w.heap.size) ra qs:=by
 refine⟨λb c e n=>⟨h.row b c e n,?_⟩,λp f b c e n=>⟨h.each p f b c e n,zhh (H.parts.each p f) n e⟩⟩;rcases H.parts.cells with g|⟨l,m,d,j⟩;exact absurd g n;rw[e]at d;cases d;exact bL_ (j 0 (zdA n))
theorem zbU.lt {x:MV}(h:zbU G x)(H:MAt w x):zbU (λk=>G k/\k<w.heap.size) x:=by
 refine⟨λc d e n=>⟨h.tx c d e n,?_⟩,h.hb.lt H.at'.bat,h.hp.lt H.at'.par,λc d e n=>⟨h.sd c d e n,zhh H.dig n e⟩,h.cb.lt H.at'.cbat,h.cp.lt H.at'.cpar,λc d e n=>⟨h.cv c d e n,?_⟩⟩;rcases H.at'.txs.cells with f|⟨j,l,b,g⟩;exact absurd f n;rw[e]at b;cases b;exact bL_ (g 0 (zdA n));rcases H.at'.vot.cells with f|⟨j,l,b,g⟩;exact absurd f n;rw[e]at b;cases b;exact bL_ (g 0 (zdA n))
theorem zcp (m:∀k,G k->w'.heap[k]? = w.heap[k]?)(h:zg w sa cap bs)(d:∀b c,sa=some (p_ b c)->bs≠[]->G b):zg w' sa cap bs:=by
 refine⟨h.le,h.max,h.some,h.nil,?_⟩;rcases h.bytes with f|⟨b,c,e,g⟩;exact .inl f;by_cases hz:bs=[];exact .inl hz;exact .inr ⟨b,c,e,λj l=>(cB_ (m b (d b c e hz))).trans (g j l)⟩
theorem zfH (d:∀k,G k->w'.heap[k]? = w.heap[k]?)(h:zx w ra rc qs)(c:zgE G ra qs):zx w' ra rc qs:=by
 refine⟨h.le,h.max,h.small,h.some,⟨?_,λp f=>zcp d (h.parts.each p f) (c.each p f)⟩⟩;rcases h.parts.cells with l|⟨b,g,e,m⟩;exact .inl l;by_cases hz:qs=[];exact .inl hz;exact .inr ⟨b,g,e,λj o=>(cB_ (d b (c.row b g e hz))).trans (m j o)⟩
theorem MAt.stays {x:MV}(c:∀k,G k->w'.heap[k]? = w.heap[k]?)(h:MAt w x)(b:zbU G x):MAt w' x:=by
 refine⟨⟨h.at'.e1,h.at'.e2,h.at'.e3,h.at'.e4,h.at'.e5,h.at'.e6,h.at'.s1,h.at'.s6,h.at'.s7,⟨?_,h.at'.txs.size⟩,zfH c h.at'.bat b.hb,zfH c h.at'.par b.hp,zfH c h.at'.cbat b.cb,zfH c h.at'.cpar b.cp,⟨?_⟩⟩,zcp c h.dig b.sd,h.dn⟩;rcases h.at'.txs.cells with g|⟨d,f,e,l⟩;exact .inl g;by_cases hz:x.ss=[];exact .inl hz;exact .inr ⟨d,f,e,λj m=>(cB_ (c d (b.tx d f e hz))).trans (l j m)⟩;rcases h.at'.vot.cells with g|⟨d,f,e,l⟩;exact .inl g;by_cases hz:x.vl=[];exact .inl hz;exact .inr ⟨d,f,e,λj m=>(cB_ (c d (b.cv d f e hz))).trans (l j m)⟩
theorem MAt.setRow {x:MV}{b:Nat}{cs:X_}(h:MAt w x)(c:zbU (λk=>B<=k) x)(d:b<B):MAt (w.setRow b cs) x:=
 h.stays (G:=λk=>B<=k) (λk f=>sO_ w b k cs (by omega)) c
theorem zrl (m:Msg)(a b:Int):zaq (zab { m with fr:=a,tt:=b })=zaq (zab m):=by
 by_cases k1:m.ki=1;simp[zab,zaq,k1];by_cases k2:m.ki=2;simp[zab,zaq,k2];by_cases k3:m.ki=3;simp[zab,zaq,k3];by_cases k4:m.ki=4;simp[zab,zaq,k4];simp[zab,zaq,k1,k2,k3,k4]
def rd3 (n:Int):L_:=[n / 65536,n / 256 % 256,n % 256]
theorem zeA (base:Nat)(v:Value)(k:Nat)(bs:L_)(n:Int)(w:World)(j:0<=n/\n<=1048576)(l:w.ownsRow base 5 1 v k (ub bs))(c:base<=w.heap.size)(s:k<=100000) :
  Calls prog 163 #[v,I_ n] w λe w'=>∃b,e=.returned b/\w'.ownsRow base 5 1 b (k+3) (ub (bs++rd3 n))/\zV w v w' b:=by
 obtain⟨i,g,o,p,q⟩:=info_parts zek;obtain⟨t,u⟩:=j;go_in;go_wp2_with (at_builtin;(refine wpList_append_own_at _ rfl _ _ 61 rfl base 5 i (.int .u8 0) 1 1 underlying61 g o p q rfl (by decide) _ k _ rfl (oA_ l _) (p_ w.heap.size 0) 3 3 [.int .u8 (n / 65536),.int .u8 (n / 256 % 256),.int .u8 (n % 256)] rfl rfl (zag _ _ _) (zds [_,_,_]) (by unfold maxLen;omega) (by omega) (zB c _) ?_;intro r y m f _ d))
 go_ret;exact⟨r,rfl,by simpa[ub,rd3]using m,(zV.of f d).alloc⟩
end Go.Proofs.YtpnpikpmdfipfaaGreatDoor
