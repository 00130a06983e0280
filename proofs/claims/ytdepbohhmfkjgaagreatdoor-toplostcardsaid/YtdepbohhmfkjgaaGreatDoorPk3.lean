import Derived.Test.YtdepbohhmfkjgaaGreatDoorPk2
import Derived.Deep.DeepCutAuto
set_option maxRecDepth 100000
set_option maxHeartbeats 4000000
namespace Go.Proofs.YtdepbohhmfkjgaaGreatDoor
open Go.RowKit Tryz
def vAt (vl:List Int)(k:Nat):Int:=if ¬(0≤vl.getD k 0∧vl.getD k 0<4) then 2 else if 0<k∧vl.getD k 0≤vl.getD (k-1) 0 then 9 else 0
def vTo (vl:List Int):Nat→Int
 | 0=>0
 | k+1=>if vTo vl k≠0 then vTo vl k else vAt vl k
theorem zqM (vl:List Int)(k m:Nat)(h:vTo vl k≠0)(b:k≤m):vTo vl m=vTo vl k:=by
 induction m with
 | zero=>
  obtain rfl:k=0:=by omega
  rfl
 | succ m ih=>
  rcases Nat.lt_or_ge k (m+1) with g|g
  ·rw[vTo,ih (by omega),if_pos h]
  ·obtain rfl:k=m+1:=by omega
   rfl
theorem zvq (vl:List Int)(k:Nat)(c:k<vl.length)(b:vTo vl k=0)(h:vAt vl k≠0):vTo vl vl.length=vAt vl k:=by
 have e:vTo vl (k+1)=vAt vl k:=by rw[vTo,b];simp
 rw[zqM vl (k+1) vl.length (by rw[e];exact h) c,e]
def zdN (vl:List Int):Int:=if vTo vl vl.length≠0 then vTo vl vl.length else if vl.length<3 then 10 else 0
def zai (au rd:Int)(bl pl:List zi)(vl:List Int):Int:=if zK au rd bl pl≠0 then zK au rd bl pl else if 4<vl.length then 1 else zdN vl
variable {w w':World}{ss:List ByteArray}{bl pl cbl cpl:List zi}{vl:List Int}
structure zed (w:World)(m:Msg)(ss:List ByteArray)(bl pl cbl cpl:List zi)(vl:List Int):Prop where
 e1:m.btn=ss.length
 e2:m.hbn=bl.length
 e3:m.hpn=pl.length
 e4:m.cbn=cbl.length
 e5:m.cpn=cpl.length
 e6:m.cvn=vl.length
 s1:ss.length≤9000000000000000000
 s6:vl.length≤9000000000000000000
 s7:m.sdn≤9000000000000000000
 txs:zas w m.bta ss
 bat:zy w m.hba m.hbc bl
 par:zy w m.hpa m.hpc pl
 cbat:zy w m.cba m.cbc cbl
 cpar:zy w m.cpa m.cpc cpl
 vot:zav w m.cva vl
theorem zed.below {m:Msg}(h:zed w m ss bl pl cbl cpl vl)(b:B_ w w'):zed w' m ss bl pl cbl cpl vl:=⟨h.e1,h.e2,h.e3,h.e4,h.e5,h.e6,h.s1,h.s6,h.s7,h.txs.below b,h.bat.below b,h.par.below b,h.cbat.below b,h.cpar.below b,h.vot.below b⟩
def zB (m:Msg)(ss:List ByteArray)(bl pl cbl cpl:List zi)(vl:List Int):Int:=if m.ki=1 then zba m.bau m.bnu ss else if m.ki=2 then zK m.hau m.hrd bl pl else if m.ki=3 then za4 m.sau m.srd m.sdn else if m.ki=4 then zai m.cau m.crd cbl cpl vl else if m.ki=5 then (if 1≤m.ro∧m.ro≤1048576 then 0 else 2) else 3
variable {n B base k rc:Nat}{qs:List zi}{w2:World}{ra:Option Addr}{xs:List Value}{v1:Value}
theorem zga:(prog.info? 64).map (fun i=>(i.zero,i.size,i.bytes))=some (some (O_),1,24):=by kernel_rfl
def pv (ps:List zi):List Value:=ps.map zi.val
theorem zqN (b:List zi):(pv b).length=b.length:=by simp[pv]
def zbg (ps qs:List zi):Prop:=ps.map (·.bs)=qs.map (·.bs)
theorem zbg.length {b:List zi}(h:zbg b qs):b.length=qs.length:=by simpa using congrArg List.length h
def zX (w:World)(B:Nat)(v:Value)(ps:List zi):Prop:=∀ p∈ps,zf w p.sa p.cap p.bs∧∀ sb so,p.sa=some ⟨sb,so,none⟩→B≤sb∧sb<w.heap.size∧v.ownBlock≠some sb
structure zaS (B:Nat)(ra:Option Addr)(qs:List zi):Prop where
 row:∀ sb so,ra=some ⟨sb,so,none⟩→B≤sb
 each:∀ p∈qs,∀ sb so,p.sa=some ⟨sb,so,none⟩→B≤sb
theorem zy.setCell (h:zy w ra rc qs)(m:zaS B ra qs)(b j:Nat)(v:Value)(q:b<B):zy (w.setCell ⟨b,j,Option.none⟩ v) ra rc qs:=by
 refine ⟨h.le,h.max,h.small,h.some,⟨?_,fun p o=>?_⟩⟩
 ·rcases h.parts.cells with c|⟨d,g,rfl,c⟩
  ·exact .inl c
  ·exact .inr ⟨d,g,rfl,fun k l=>(World.cell?_setCell_far _ _ _ _ (by have:=m.row d g rfl;show b≠d;omega)).trans (c k l)⟩
 ·have f:=h.parts.each p o;refine ⟨f.le,f.max,f.some,f.nil,?_⟩;rcases f.bytes with c|⟨d,g,e,c⟩
  ·exact .inl c
  ·exact .inr ⟨d,g,e,fun k l=>(World.cell?_setCell_far _ _ _ _ (by have:=m.each p o d g e;show b≠d;omega)).trans (c k l)⟩
theorem zcl {v:Value}{c:List zi}(h:w.ownsRow base 64 1 v n (pv c))(f:zX w base v c):∃ d rc,v=.slice d n rc∧n=c.length∧(n≤9000000000000000000→zy w d rc c)∧zaS base d c:=by
 have u:n=c.length:=by have:=h.1;rw[zqN] at this;omega
 rcases h.2 with ⟨rfl,y⟩|⟨g,q,z,rfl,l⟩
 ·have s:c=[]:=eN_ (by omega);subst y s;exact ⟨none,0,rfl,rfl,fun _=>⟨nR_ _,by decide,by decide,.inl rfl,⟨.inl rfl,fun p b=>by cases b⟩⟩,⟨(fun _ _ e=>by cases e),(fun p b=>by cases b)⟩⟩
 ·refine ⟨some ⟨g,0,none⟩,q,rfl,u,fun B=>⟨?_,?_,by omega,.inr ⟨g,0,rfl⟩,⟨.inr ⟨g,0,rfl,fun j t=>?_⟩,fun p b=>(f p b).1⟩⟩,⟨(fun m o e=>by cases e;exact (h.lt _ rfl).1),(fun p b m o e=>((f p b).2 m o e).1)⟩⟩
  ·obtain ⟨_,_,A,_⟩:=l;omega
  ·obtain ⟨_,_,_,r,_⟩:=l;exact r
  ·rw[Nat.zero_add,World.ownsRow.cellAt h j (by omega)];simp[pv,zi.val,t]
theorem zv {e:TypeId}{s:Nat}{v:Value}(h:w.ownsRow base e s v n xs)(l:B_ w w'):w'.ownsRow base e s v n xs:=by
 have j:∀ q,v.ownBlock=some q→q<w.heap.size:=fun q e=>(h.lt q e).2;obtain ⟨f,b⟩:=h;refine ⟨f,?_⟩;rcases b with b|⟨g,c,d,rfl,o,m,r⟩
 ·exact .inl b
 ·exact .inr ⟨g,c,d,rfl,o,(l.block g (j g rfl)).trans m,r⟩
theorem zsN (w:World):zf w none 0 []:=⟨nR_ _,by decide,.inl rfl,fun _=>rfl,.inl rfl⟩
theorem zX.more_at {y:World}{v:Value}{q:zi}{o:Obj}{F:Nat}{e:TypeId}(h:zX w B v qs)(J:B≤w.heap.size)(A:w.ownsRow B e F v n xs)(s:B_ w w2)
  (C:∀ b c,q.sa=some ⟨b,c,none⟩→w.heap.size≤b∧b<w2.heap.size) (E:zf w2 q.sa q.cap q.bs) (G:zR (w2.alloc o) v y v1):zX y B v1 (qs++[q]):=by
 have m:B_ w2 (w2.alloc o):=(bR_ _ _).alloc (nR_ _) _;have L:w2.heap.size<(w2.alloc o).heap.size:=by rw[zI];omega
 have I:=G.grown.size;have H:=s.size;intro p d;rcases List.mem_append.1 d with d|d
 ·obtain ⟨D,r⟩:=h p d;refine ⟨G.slice ((D.below s).below m) (fun b c e=>(r b c e).2.2),fun b c e=>?_⟩;obtain ⟨l,z,j⟩:=r b c e;refine ⟨l,by omega,fun f=>?_⟩;rcases G.fresh b f with g|g
  ·exact j g
  ·omega
 ·obtain rfl:p=q:=by simpa using d
  have u:∀ b c,p.sa=some ⟨b,c,none⟩→w.heap.size≤b∧b<w2.heap.size∧v.ownBlock≠some b:=fun b c e=>by
   have t:=C b c e;exact ⟨t.1,t.2,fun f=>by have:=(A.lt b f).2;omega⟩
  refine ⟨G.slice (E.below m) (fun b c e=>(u b c e).2.2),fun b c e=>?_⟩;obtain ⟨l,z,j⟩:=u b c e;refine ⟨by omega,by omega,fun f=>?_⟩;rcases G.fresh b f with g|g
  ·exact j g
  ·omega
theorem zX.more {b:World}{v:Value}{q:zi}{o:Obj}{e:TypeId}(h:zX w B v qs)(c:B≤w.heap.size)(f:w.ownsRow B e 1 v n xs)(d:B_ w w2)
  (g:w2.ownsRow w.heap.size 5 1 (.slice q.sa k q.cap) k (ub q.bs)) (j:zf w2 q.sa q.cap q.bs) (G:zR (w2.alloc o) v b v1):zX b B v1 (qs++[q]):=
 h.more_at c f d (fun l m e=>g.lt l (by rw[e];rfl)) j G
theorem zC {e:TypeId}{s:Nat}{v:Value}(h:w.ownsRow base e s v n xs):∃ d f,v=.slice d n f:=by
 rcases h.2 with ⟨rfl,c⟩|⟨g,b,j,rfl,_⟩
 ·subst c;exact ⟨none,0,rfl⟩
 ·exact ⟨some ⟨g,0,none⟩,b,rfl⟩
theorem zN {e:TypeId}{s:Nat}{v:Value}(h:w.ownsRow base e s v n xs)(b j:Nat)(x:Value)(p:b<base):(w.setCell ⟨b,j,none⟩ x).ownsRow base e s v n xs:=by
 obtain ⟨l,c⟩:=h;refine ⟨l,?_⟩;rcases c with c|⟨g,d,f,rfl,o,m,r⟩
 ·exact .inl c
 ·exact .inr ⟨g,d,f,rfl,o,(hO_ w ⟨b,j,none⟩ g x (by show g≠b;omega)).trans m,r⟩
variable {va:Option Addr}
theorem zsO:(prog.info? 3).map (fun i=>(i.zero,i.size,i.bytes))=some (some (I_ 0),1,8):=by kernel_rfl
def iv (vl:List Int):List Value:=vl.map (Value.int .i64)
theorem zlj (vl:List Int):(iv vl).length=vl.length:=by simp[iv]
theorem zqO (vl:List Int):∀ u∈iv vl,u.oneCell'=true:=by
 intro u b;simp[iv] at b;obtain ⟨x,_,rfl⟩:=b;rfl
theorem zee {v:Value}(h:w.ownsRow base 3 1 v n (iv vl)):∃ c q,v=.slice c n q∧n=vl.length∧zav w c vl∧∀ b d,c=some ⟨b,d,none⟩→base≤b:=by
 have o:n=vl.length:=by have:=h.1;rw[zlj] at this;omega
 rcases h.2 with ⟨rfl,p⟩|⟨g,f,r,rfl,_⟩
 ·have l:vl=[]:=eN_ (by omega);subst p l;exact ⟨none,0,rfl,rfl,⟨.inl rfl⟩,fun _ _ e=>by cases e⟩
 ·refine ⟨some ⟨g,0,none⟩,f,rfl,o,⟨.inr ⟨g,0,rfl,fun j m=>?_⟩⟩,fun b d e=>by cases e;exact (h.lt _ rfl).1⟩;rw[Nat.zero_add,World.ownsRow.cellAt h j (by omega)];simp[iv,m]
theorem zav.setCell (h:zav w va vl)(b j:Nat)(v:Value)(l:∀ c d,va=some ⟨c,d,none⟩→b≠c):zav (w.setCell ⟨b,j,none⟩ v) va vl:=by
 refine ⟨?_⟩;rcases h.cells with h|⟨c,d,rfl,f⟩
 ·exact .inl h
 ·exact .inr ⟨c,d,rfl,fun k g=>(World.cell?_setCell_far _ _ _ _ (l c d rfl)).trans (f k g)⟩
structure zhr (B:Nat)(m:Msg)(bl pl cbl cpl:List zi):Prop where
 tx:∀ sb so,m.bta=some ⟨sb,so,none⟩→B≤sb
 hb:zaS B m.hba bl
 hp:zaS B m.hpa pl
 sd:∀ sb so,m.sda=some ⟨sb,so,none⟩→B≤sb
 cb:zaS B m.cba cbl
 cp:zaS B m.cpa cpl
 cv:∀ sb so,m.cva=some ⟨sb,so,none⟩→B≤sb
theorem zfG (w:World):zf w none 0 []:=⟨nR_ _,by decide,.inl rfl,fun _=>rfl,.inl rfl⟩
theorem zaS.monoM {d:Nat}(h:zaS B ra qs)(f:d≤B):zaS d ra qs:=⟨fun b c e=>nT_ f (h.row b c e),fun p g b c e=>nT_ f (h.each p g b c e)⟩
structure U8M (bl pl cbl cpl:List zi)(ds:List Int):Prop where
 hb:∀ p∈bl,∀ x∈p.bs,0≤x∧x≤255
 hp:∀ p∈pl,∀ x∈p.bs,0≤x∧x≤255
 cb:∀ p∈cbl,∀ x∈p.bs,0≤x∧x≤255
 cp:∀ p∈cpl,∀ x∈p.bs,0≤x∧x≤255
 sd:∀ x∈ds,0≤x∧x≤255
theorem zbz {α:Type}{P:α→Prop}:∀ p∈([]:List α),P p:=fun p b=>by cases b
theorem zeR (h:zy w ra rc qs)(g:zaS B ra qs)(b:Nat)(cs:Array Value)(m:b<B):zy (w.setRow b cs) ra rc qs:=by
 refine ⟨h.le,h.max,h.small,h.some,⟨?_,fun p j=>?_⟩⟩
 ·rcases h.parts.cells with f|⟨c,d,rfl,f⟩
  ·exact .inl f
  ·exact .inr ⟨c,d,rfl,fun k l=>(zhq (by have:=g.row c d rfl;omega)).trans (f k l)⟩
 ·exact zig (h.parts.each p j) b cs (fun c d e=>by have:=g.each p j c d e;omega)
theorem zaa (w:World):zy w none 0 []:=⟨nR_ _,by decide,by decide,.inl rfl,⟨.inl rfl,fun p b=>by cases b⟩⟩
variable {sa:Option Addr}{cap:Nat}{bs:List Int}{G:Nat→Prop}
structure MV where
 (m:Msg) (ss:List ByteArray) (bl pl cbl cpl:List zi) (ds vl:List Int)
def MV.car (x:MV):Int:=zB x.m x.ss x.bl x.pl x.cbl x.cpl x.vl
structure zfH (G:Nat→Prop)(ra:Option Addr)(qs:List zi):Prop where
 row:∀ sb so,ra=some ⟨sb,so,none⟩→qs≠[]→G sb
 each:∀ p∈qs,∀ sb so,p.sa=some ⟨sb,so,none⟩→p.bs≠[]→G sb
structure zbH (G:Nat→Prop)(x:MV):Prop where
 tx:∀ sb so,x.m.bta=some ⟨sb,so,none⟩→x.ss≠[]→G sb
 hb:zfH G x.m.hba x.bl
 hp:zfH G x.m.hpa x.pl
 sd:∀ sb so,x.m.sda=some ⟨sb,so,none⟩→x.ds≠[]→G sb
 cb:zfH G x.m.cba x.cbl
 cp:zfH G x.m.cpa x.cpl
 cv:∀ sb so,x.m.cva=some ⟨sb,so,none⟩→x.vl≠[]→G sb
structure MAt (w:World)(x:MV):Prop where
 at':zed w x.m x.ss x.bl x.pl x.cbl x.cpl x.vl
 dig:zf w x.m.sda x.m.sdc x.ds
 dn:x.m.sdn=x.ds.length
structure zaK (x:MV):Prop where
 car:x.car=0
 emp:zaj (zZ x.m)=true
 fr:x.m.fr=0
 tt:x.m.tt=0
 ki:x.m.ki≠5
theorem MAt.below {x:MV}(h:MAt w x)(b:B_ w w'):MAt w' x:=⟨h.at'.below b,h.dig.below b,h.dn⟩
theorem zfH.mono {d:Nat→Prop}(h:zfH G ra qs)(f:∀ k,G k→d k):zfH d ra qs:=⟨fun b c e n=>f _ (h.row b c e n),fun p g b c e n=>f _ (h.each p g b c e n)⟩
theorem zbH.mono {f:Nat→Prop}{x:MV}(h:zbH G x)(b:∀ k,G k→f k):zbH f x:=
 ⟨fun c d e n=>b _ (h.tx c d e n),h.hb.mono b,h.hp.mono b,fun c d e n=>b _ (h.sd c d e n),h.cb.mono b,h.cp.mono b,fun c d e n=>b _ (h.cv c d e n)⟩
theorem zhr.has {x:MV}(h:zhr B x.m x.bl x.pl x.cbl x.cpl):zbH (fun k=>B≤k) x:=
 ⟨fun b c e _=>h.tx b c e,⟨fun b c e _=>h.hb.row b c e,fun p d b c e _=>h.hb.each p d b c e⟩,⟨fun b c e _=>h.hp.row b c e,fun p d b c e _=>h.hp.each p d b c e⟩,fun b c e _=>h.sd b c e,⟨fun b c e _=>h.cb.row b c e,fun p d b c e _=>h.cb.each p d b c e⟩,⟨fun b c e _=>h.cp.row b c e,fun p d b c e _=>h.cp.each p d b c e⟩,fun b c e _=>h.cv b c e⟩
theorem zc3 {α:Type}{l:List α}(h:l≠[]):0<l.length:=by cases l with|nil=>exact absurd rfl h|cons _ _=>simp
theorem zgb (h:zf w sa cap bs)(c:bs≠[]){d j:Nat}(e:sa=some ⟨d,j,none⟩):d<w.heap.size:=by
 rcases h.bytes with f|⟨l,m,b,g⟩
 ·exact absurd f c
 ·rw[e] at b;cases b;exact bL_ (g 0 (zc3 c))
theorem zfH.lt (h:zfH G ra qs)(H:zy w ra rc qs):zfH (fun k=>G k∧k<w.heap.size) ra qs:=by
 refine ⟨fun b c e n=>⟨h.row b c e n,?_⟩,fun p f b c e n=>⟨h.each p f b c e n,zgb (H.parts.each p f) n e⟩⟩;rcases H.parts.cells with g|⟨l,m,d,j⟩
 ·exact absurd g n
 ·rw[e] at d;cases d;exact bL_ (j 0 (zc3 n))
theorem zbH.lt {x:MV}(h:zbH G x)(H:MAt w x):zbH (fun k=>G k∧k<w.heap.size) x:=by
 refine ⟨fun c d e n=>⟨h.tx c d e n,?_⟩,h.hb.lt H.at'.bat,h.hp.lt H.at'.par,fun c d e n=>⟨h.sd c d e n,zgb H.dig n e⟩,h.cb.lt H.at'.cbat,h.cp.lt H.at'.cpar,fun c d e n=>⟨h.cv c d e n,?_⟩⟩
 ·rcases H.at'.txs.cells with f|⟨j,l,b,g⟩
  ·exact absurd f n
  ·rw[e] at b;cases b;exact bL_ (g 0 (zc3 n))
 ·rcases H.at'.vot.cells with f|⟨j,l,b,g⟩
  ·exact absurd f n
  ·rw[e] at b;cases b;exact bL_ (g 0 (zc3 n))
theorem zb9 (m:∀ k,G k→w'.heap[k]? = w.heap[k]?)(h:zf w sa cap bs)(d:∀ b c,sa=some ⟨b,c,none⟩→bs≠[]→G b):zf w' sa cap bs:=by
 refine ⟨h.le,h.max,h.some,h.nil,?_⟩;rcases h.bytes with f|⟨b,c,e,g⟩
 ·exact .inl f
 ·by_cases hz:bs=[]
  ·exact .inl hz
  ·exact .inr ⟨b,c,e,fun j l=>(cB_ (m b (d b c e hz))).trans (g j l)⟩
theorem zeS (d:∀ k,G k→w'.heap[k]? = w.heap[k]?)(h:zy w ra rc qs)(c:zfH G ra qs):zy w' ra rc qs:=by
 refine ⟨h.le,h.max,h.small,h.some,⟨?_,fun p f=>zb9 d (h.parts.each p f) (c.each p f)⟩⟩;rcases h.parts.cells with l|⟨b,g,e,m⟩
 ·exact .inl l
 ·by_cases hz:qs=[]
  ·exact .inl hz
  ·exact .inr ⟨b,g,e,fun j o=>(cB_ (d b (c.row b g e hz))).trans (m j o)⟩
theorem MAt.stays {x:MV}(c:∀ k,G k→w'.heap[k]? = w.heap[k]?)(h:MAt w x)(b:zbH G x):MAt w' x:=by
 refine ⟨⟨h.at'.e1,h.at'.e2,h.at'.e3,h.at'.e4,h.at'.e5,h.at'.e6,h.at'.s1,h.at'.s6,h.at'.s7,⟨?_,h.at'.txs.size⟩,zeS c h.at'.bat b.hb,zeS c h.at'.par b.hp,zeS c h.at'.cbat b.cb,zeS c h.at'.cpar b.cp,⟨?_⟩⟩,zb9 c h.dig b.sd,h.dn⟩
 ·rcases h.at'.txs.cells with g|⟨d,f,e,l⟩
  ·exact .inl g
  ·by_cases hz:x.ss=[]
   ·exact .inl hz
   ·exact .inr ⟨d,f,e,fun j m=>(cB_ (c d (b.tx d f e hz))).trans (l j m)⟩
 ·rcases h.at'.vot.cells with g|⟨d,f,e,l⟩
  ·exact .inl g
  ·by_cases hz:x.vl=[]
   ·exact .inl hz
   ·exact .inr ⟨d,f,e,fun j m=>(cB_ (c d (b.cv d f e hz))).trans (l j m)⟩
theorem MAt.setRow {x:MV}{b:Nat}{cs:Array Value}(h:MAt w x)(c:zbH (fun k=>B≤k) x)(d:b<B):MAt (w.setRow b cs) x:=
 h.stays (G:=fun k=>B≤k) (fun k f=>setRow_other w b k cs (by omega)) c
theorem zpc (m:Msg)(a b:Int):zaj (zZ { m with fr:=a,tt:=b })=zaj (zZ m):=by
 by_cases k1:m.ki=1
 ·simp[zZ,zaj,k1]
 by_cases k2:m.ki=2
 ·simp[zZ,zaj,k2]
 by_cases k3:m.ki=3
 ·simp[zZ,zaj,k3]
 by_cases k4:m.ki=4
 ·simp[zZ,zaj,k4]
 ·simp[zZ,zaj,k1,k2,k3,k4]
def rd3 (n:Int):List Int:=[n / 65536,n / 256 % 256,n % 256]
theorem zdS (base:Nat)(v:Value)(k:Nat)(bs:List Int)(n:Int)(w:World)(j:0≤n∧n≤1048576)(l:w.ownsRow base 5 1 v k (ub bs))(c:base≤w.heap.size)(s:k≤100000) :
  Calls prog 36 #[v,I_ n] w fun e w'=>∃ b,e=.returned b∧w'.ownsRow base 5 1 b (k+3) (ub (bs++rd3 n))∧zR w v w' b:=by
 obtain ⟨i,g,o,p,q⟩:=info_parts zdI;obtain ⟨t,u⟩:=j;go_in;go_wp2_with (at_builtin;(refine wpList_append_own_at _ rfl _ _ 64 rfl base 5 i (.int .u8 0) 1 1 underlying64 g o p q rfl (by decide) _ k _ rfl (oA_ l _) ⟨w.heap.size,0,none⟩ 3 3 [.int .u8 (n / 65536),.int .u8 (n / 256 % 256),.int .u8 (n % 256)] rfl rfl (z8 _ _ _) (zcU [_,_,_]) (by unfold maxLen;omega) (by omega) (zz c _) ?_;intro r y m f _ d))
 go_ret;exact ⟨r,rfl,by simpa[ub,rd3] using m,(zR.of f d).alloc⟩
end Go.Proofs.YtdepbohhmfkjgaaGreatDoor
