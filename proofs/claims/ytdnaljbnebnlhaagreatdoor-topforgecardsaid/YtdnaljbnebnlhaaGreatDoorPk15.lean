import Derived.Test.YtdnaljbnebnlhaaGreatDoorPk14
set_option maxRecDepth 100000
set_option maxHeartbeats 4000000
namespace Go.Proofs.YtdnaljbnebnlhaaGreatDoor
open Go.RowKit Tryz
def MV.onTape (x:MV):List Int:=[(x.bytes.length:Int) / 256,(x.bytes.length:Int) % 256]++x.bytes
theorem zaT.len {x:MV}(h:zaT x)(b:x.m.sdn=x.ds.length):3<=x.bytes.length/\x.bytes.length<=323:=by
 have:=zk7 b h.car;simp[MV.bytes,zeL];omega
theorem zlH (x:MV):x.onTape.length=2+x.bytes.length:=by simp[MV.onTape];omega
theorem zms (x:MV)(bs:List Int)(d:Option Addr)(n c:Nat)(sy:Int)(w:World)(p:n=bs.length)(q:zg w d c bs)(b:MAt w x)(f:zaT x)(j:0<=sy/\sy<=bs.length)(r:bs.length+2+x.bytes.length<=400000) :
  Calls prog 182 #[.agg #[.slice d n c,I_ sy],.agg (mrow_ x.m)] w λe w'=>zrI w w' e (bs++x.onTape) sy 0:=by
 obtain⟨s,t⟩:=f.len b.dn;have m:∀W:World,B_ w W->Calls prog 213 #[.agg (mrow_ x.m)] W λe w'=>∃v,e=.returned (.tuple #[v,I_ 0])/\w'.ownsRow W.heap.size 5 1 v x.bytes.length (ub x.bytes)/\B_ W w':=λW g=>by
  have h:=zoD x.m x.ss x.bl x.pl x.cbl x.cpl x.ds x.vl W (b.at'.below g) (b.dig.below g) b.dn;have l:zcO x.m (zP x.m (zD x.m x.ss x.bl x.pl x.cbl x.cpl x.vl))=0:=f.rec0;rw[l]at h;exact h
 have h:=zim x.m bs d n c sy 0 x.bytes w p q (by omega) (λh=>absurd rfl h) (λ_=>by omega) (by omega) m;have o:zgJ bs.length sy 0 x.bytes.length=0:=by
  rw[zgJ,if_pos (zcr.2 ⟨by omega,j.1,j.2⟩),if_neg (by simp),if_neg (by omega)]
 rw[o,ziU,if_pos rfl,ziV,if_pos rfl,List.append_assoc]at h;exact h
theorem zrJ (x:MV)(bs:List Int)(c:Option Addr)(n b:Nat)(sy:Int)(w:World)(j:n=bs.length)(l:zg w c b bs)(f:MAt w x)(d:zaT x)(m:0<=sy/\sy<=bs.length)(g:bs.length+2+x.bytes.length<=400000) :
  Calls prog 182 #[.agg #[.slice c n b,I_ sy],.agg (mrow_ x.m)] w λe w'=>zdM w w' e (bs++x.onTape) sy 0:=
 (zms x bs c n b sy w j l f d m g).mono (λ_ _ h=>h.is)
variable {w w' w2:World}{n B base:Nat}{xs:List Value}{v1:Value}{ms:List MV}
theorem zkn:(prog.info? 66).map (λi=>(i.zero,i.size,i.bytes))=some (some (.agg mz_),19,264):=by kernel_rfl
def zcR (m:Msg):List Value:=((mrow_ m):Array Value).toList
theorem zd7 (m:Msg):(zcR m).length=19:=rfl
def zY (ms:List MV):List Value:=ms.flatMap λx=>zcR x.m
theorem zdN (ms:List MV):(zY ms).length=ms.length*19:=by
 induction ms with
 | nil=>rfl
 | cons x l ih=>simp only[zY,List.flatMap_cons,lP_]at ih|-;rw[ih,zd7];simp;omega
theorem zfi (ms:List MV)(x:MV):zY (ms++[x])=zY ms++zcR x.m:=by simp[zY]
theorem zty (ms:List MV)(k:Nat)(b:k<ms.length)(j:Nat)(c:j<19):(zY ms)[k*19+j]? = (zcR (ms[k]).m)[j]?:=by
 induction ms generalizing k with
 | nil=>simp at b
 | cons x l ih=>
  cases k with
  | zero=>
   simp only[zY,List.flatMap_cons,Nat.zero_mul,Nat.zero_add,List.getElem_cons_zero];rw[List.getElem?_append_left (by rw[zd7];exact c)]
  | succ k=>
   simp only[zY,List.flatMap_cons,List.getElem_cons_succ];rw[List.getElem?_append_right (by rw[zd7];omega),zd7,show(k+1)*19+j-19=k*19+j by omega];exact ih k (by simpa using b)
theorem zfv (m:Msg):∀u∈zcR m,u.oneCell'=true:=by
 intro u b;simp[zcR]at b;rcases b with rfl|rfl|rfl|rfl|rfl|rfl|rfl|rfl|rfl|rfl|rfl|rfl|rfl|rfl|rfl|rfl|rfl|rfl|rfl<;>rfl
def zda (w:World)(B:Nat)(v:Value)(ms:List MV):Prop:=∀x∈ms,MAt w x/\zaT x/\zbU (λk=>B<=k/\v.ownBlock≠some k) x
theorem zda.below {v:Value}(h:zda w B v ms)(c:B_ w w'):zda w' B v ms:=λx b=>⟨(h x b).1.below c,(h x b).2.1,(h x b).2.2⟩
theorem zda.more {l:World}{v:Value}{x:MV}{o:Obj}{e:TypeId}{D:Nat}(h:zda w B v ms)(E:B<=w.heap.size)(A:w.ownsRow B e D v n xs)(j:B_ w w2)(q:MAt w2 x)(C:zaT x)(z:zbU (λk=>w.heap.size<=k) x)(G:zV (w2.alloc o) v l v1):zda l B v1 (ms++[x]):=by
 have u:B_ w2 (w2.alloc o):=(bR_ _ _).alloc (nR_ _) _;have F:=j.size;have p:(w2.alloc o).heap.size=w2.heap.size+1:=by simp
 have r:∀y:MV,MAt w2 y->zbU (λk=>(B<=k/\v.ownBlock≠some k)/\k<w2.heap.size) y->MAt l y/\zbU (λk=>B<=k/\v1.ownBlock≠some k) y:=λy c f=>by
  refine⟨(c.below u).stays (G:=λk=>(B<=k/\v.ownBlock≠some k)/\k<w2.heap.size) (λk d=>G.grown.block k (by rw[p];omega) (λe=>d.1.2 e.symm)) f,f.mono (λk d=>⟨d.1.1,λe=>?_⟩)⟩;rcases G.fresh k e with g|g
  .exact d.1.2 g
  .rw[p]at g;have:=d.2;omega
 intro y c;rcases List.mem_append.1 c with c|c
 .obtain⟨m,s,t⟩:=h y c;obtain⟨a,b⟩:=r y (m.below j) (t.lt (m.below j));exact⟨a,s,b⟩
 .obtain rfl:y=x:=by simpa using c
  have f:zbU (λk=>B<=k/\v.ownBlock≠some k) y:=z.mono (λk d=>⟨by omega,λe=>by have:=(A.lt k e).2;omega⟩);obtain⟨a,b⟩:=r y q (f.lt q);exact⟨a,C,b⟩
def zam (ms:List MV):List Int:=ms.flatMap MV.onTape
theorem zfQ (ms:List MV)(x:MV):zam (ms++[x])=zam ms++x.onTape:=by simp[zam]
def zrK (w:World)(sa:Option Addr)(ms:List MV):Prop:=ms=[]\/∃sb so,sa=some ⟨sb,so,none⟩/\∀(k:Nat) (hk:k<ms.length),w.rangeAt sb (so+k*19) (zcR (ms[k]).m)
theorem zfm {v:Value}(h:w.ownsRow base 66 19 v n (zY ms)):∃l b,v=.slice l n b/\n=ms.length/\n<=b/\b<=maxLen/\zrK w l ms:=by
 have d:n=ms.length:=by have:=h.1;rw[zdN]at this;omega
 rcases h.2 with⟨rfl,s⟩|⟨g,b,t,rfl,f⟩
 .exact⟨none,0,by rw[s],d,by omega,by decide,.inl (eN_ (by omega))⟩
 .refine⟨some ⟨g,0,none⟩,b,rfl,d,?_,?_,.inr ⟨g,0,rfl,λk q j v c=>?_⟩⟩
  .obtain⟨_,_,m,_⟩:=f;exact m
  .obtain⟨_,_,_,o,_⟩:=f;exact o
  .have p:j<19:=by
    rcases Nat.lt_or_ge j 19 with g|g
    .exact g
    .rw[List.getElem?_eq_none (by rw[zd7];exact g)]at c;cases c
   have r:k*19+j<n*19:=by omega
   rw[show 0+k*19+j=k*19+j by omega,World.ownsRow.cellAt h (k*19+j) r,zty ms k q j p,c]
def CV.slot (h:CV):SV:=(h.au,h.rd,h.d)
def CV.z:CV:=⟨0,0,[],[],[]⟩
def MC.z:MC:=⟨0,0,0,0,0,[],0,0,[],[],0,0,[],0,0,[],[],[],0⟩
def zed (b:BW):MC:=⟨0,0,1,b.au,b.nu,b.ss,0,0,[],[],0,0,[],0,0,[],[],[],0⟩
def zcl (h:CV):MC:=⟨0,0,2,0,0,[],h.au,h.rd,h.bl,h.pl,0,0,[],0,0,[],[],[],0⟩
def zcE (s:SV):MC:=⟨0,0,3,0,0,[],0,0,[],[],s.1,s.2.1,s.2.2,0,0,[],[],[],0⟩
def zdh (c:CV):MC:=⟨0,0,4,0,0,[],0,0,[],[],0,0,[],c.au,c.rd,c.bl,c.pl,c.vl,0⟩
def zrL (r:Int):MC:=⟨0,0,5,0,0,[],0,0,[],[],0,0,[],0,0,[],[],[],r⟩
def MC.b (m:MC):BW:=⟨m.bau,m.bnu,m.ss⟩
def MC.h (m:MC):CV:=⟨m.hau,m.hrd,m.bl,m.pl,[]⟩
def MC.s (m:MC):SV:=(m.sau,m.srd,m.ds)
def MC.ct (m:MC):CV:=⟨m.cau,m.crd,m.cbl,m.cpl,m.vl⟩
def MC.ft (m:MC)(a b:Int):MC:={ m with fr:=a,tt:=b }
def MC.mv (m:MC):MV:=⟨⟨m.fr,m.tt,m.ki,m.bau,m.bnu,m.hau,m.hrd,m.sau,m.srd,m.cau,m.crd,m.ro,none,none,none,none,none,none,none,m.ss.length,0,m.bl.length,0,m.pl.length,0,m.ds.length,0,m.cbl.length,0,m.cpl.length,0,m.vl.length,0⟩,m.ss,pz m.bl,pz m.pl,pz m.cbl,pz m.cpl,m.ds,m.vl⟩
def MC.onTape (m:MC):List Int:=m.mv.onTape
def zae (l:List MC):List Int:=l.flatMap MC.onTape
structure Kn where
 (sh:List BW) (tab:List SV) (dag:List CV) (own:CV) (slot:SV)
def Kn.z:Kn:=⟨[],[],[],CV.z,(0,0,[])⟩
def zbG (sh:List BW)(b:BW):Bool:=decide (b.f=0)&&!zb1 sh b.d&&decide (sh.length<800)
def zaf (l:List SV)(h:CV):List SV×SV×Int:=zcL l h.au h.rd (pz h.bl) (pz h.pl)
def Kn.rcl (k:Kn)(m:MC):Kn:=
 if m.ki=1 then(if zbG k.sh m.b then { k with sh:=k.sh++[m.b] } else k)
 else if m.ki=2 then(if m.h.hf=0 then { k with own:=m.h,slot:=m.h.slot,tab:=if(zaf k.tab m.h).2.2=0 then(zaf k.tab m.h).1 else k.tab } else k)
 else if m.ki=3 then { k with tab:=k.tab++[m.s] }
 else if m.ki=4 then(if za8 k.dag m.ct=0 then { k with dag:=k.dag++[m.ct] } else k)
 else k
structure Nd where
 (nu:Int) (up:Bool) (nx:Int) (txs:List ByteArray) (k:Kn) (vot:List Int) (recs:List MC) (syn:Nat) (wai:List MC) (trn:Int)
def Nd.z (nu:Int):Nd:=⟨nu,false,1,[],Kn.z,[],[],0,[],0⟩
def Nd.room (n:Nd)(m:MC):Bool:=decide ((zae n.recs).length+m.onTape.length<=400000)
def Nd.send (n:Nd)(to_:Int)(m:MC):Nd:=if to_=n.nu\/400<=n.wai.length then n else { n with wai:=n.wai++[m.ft n.nu to_] }
def Nd.sendTo (n:Nd)(m:MC):Nat->Nd
 | 0=>n
 | j+1=>(n.sendTo m j).send j m
def Nd.sendAll (n:Nd)(m:MC):Nd:=n.sendTo m 4
def Nd.sendD (n:Nd)(to_:Int)(d:List Int):Nd:=match bOf n.k.sh d with
 | some b=>n.send to_ (zed b)
 | none=>n
def Nd.sendB (n:Nd)(to_:Int)(l:List (List Int)):Nd:=l.foldl (λn d=>n.sendD to_ d) n
def Nd.log (n:Nd)(m:MC)(k:Kn):Nd:={ n with recs:=n.recs++[m],k:=k }
def Nd.hearB (n:Nd)(b:BW):Nd:=if zbG n.k.sh b&&n.room (zed b)then n.log (zed b) { n.k with sh:=n.k.sh++[b] } else n
def Kn.knows (k:Kn)(h:CV):Bool:=h.bl.all (zb1 k.sh)&&decide (zdz k.dag h.rd h.pl=0)
structure No where
 (bad:Int) (sg:List GV)
def No.signed (o:No)(nd:Int)(s:SV):Bool:=decide ((zce o.sg o.bad (nd,s.1,s.2.1,s.2.2)).2=0)&&(zce o.sg o.bad (nd,s.1,s.2.1,s.2.2)).1
def No.proven (o:No)(c:CV):Bool:=decide (zfl o.sg o.bad c.au c.rd c.f c.d c.vl=0)
def Nd.hearO (n:Nd)(o:No)(h:CV):Nd:=
 if h.au=n.nu\/n.k.knows h=false\/h.hf≠0\/o.signed h.au h.slot=false then n
 else if(zaf n.k.tab h).2.2≠0 then n
 else if n.k.tab.length<(zaf n.k.tab h).1.length then
  (if n.room (zcE h.slot)then(n.log (zcE h.slot) { n.k with tab:=(zaf n.k.tab h).1 }).send h.au (zcE h.slot)else n)
 else n.send h.au (zcE h.slot)
def Nd.proofs (n:Nd)(o:No)(c:CV):Bool:=decide (za8 n.k.dag c=0)&&o.proven c&&n.room (zdh c)
def Nd.hearP (n:Nd)(o:No)(c:CV):Nd:=if n.proofs o c then n.log (zdh c) { n.k with dag:=n.k.dag++[c] } else n
def zmt (x:Int):List Int->List Int
 | []=>[x]
 | y::l=>if x<=y then x::y::l else y::zmt x l
def zhH (l:List Int):List Int:=l.foldr zmt []
def Nd.cert (n:Nd):CV:={ n.k.own with vl:=zhH n.vot }
def Nd.hearV (n:Nd)(o:No)(fr:Int)(s:SV):Nd:=
 if s≠n.k.slot\/0<=cOf n.k.dag s.1 s.2.1\/fr∈n.vot\/o.signed fr s=false then n
 else if n.vot.length+1<3 then { n with vot:=n.vot++[fr] }
 else if({ n with vot:=n.vot++[fr] }:Nd).proofs o ({ n with vot:=n.vot++[fr] }:Nd).cert
  then(({ n with vot:=n.vot++[fr] }:Nd).hearP o ({ n with vot:=n.vot++[fr] }:Nd).cert).sendAll (zdh ({ n with vot:=n.vot++[fr] }:Nd).cert)
  else { n with vot:=n.vot++[fr] }
def leC (a b:CV):Bool:=decide (a.rd<b.rd\/(a.rd=b.rd/\a.au<=b.au))
def ziX (x:CV):List CV->List CV
 | []=>[x]
 | y::l=>if leC x y then x::y::l else y::ziX x l
def zko (l:List CV):List CV:=l.foldr ziX []
def zjU (l:List CV)(r:Int):List CV:=(zko (l.filter λc=>decide (r<=c.rd))).take 8
def Nd.tellC (n:Nd)(fr:Int)(c:CV):Nd:=(n.sendB fr c.bl).send fr (zdh c)
def Nd.tell (n:Nd)(fr:Int)(l:List CV):Nd:=l.foldl (λn c=>n.tellC fr c) n
def Nd.hearW (n:Nd)(fr r:Int):Nd:=n.tell fr (zjU n.k.dag r)
def Nd.hear (n:Nd)(o:No)(m:MC):Nd:=
 if m.ki=1 then n.hearB m.b else if m.ki=2 then n.hearO o m.h else if m.ki=3 then n.hearV o m.fr m.s else if m.ki=4 then n.hearP o m.ct else if m.ki=5 then n.hearW m.fr m.ro else n
def Nd.gather (n:Nd):Nd:=
 if zb4 n.nx n.txs n.nu≠0 then n
 else if zb1 (n.hearB ⟨n.nu,n.nx,n.txs.take 4⟩).k.sh (⟨n.nu,n.nx,n.txs.take 4⟩:BW).d
  then({ n.hearB ⟨n.nu,n.nx,n.txs.take 4⟩with nx:=n.nx+1,txs:=n.txs.drop 4 }:Nd).sendAll (zed ⟨n.nu,n.nx,n.txs.take 4⟩)
  else n.hearB ⟨n.nu,n.nx,n.txs.take 4⟩
def zlI (l:List CV)(r:Int):Nat->Int
 | 0=>r
 | f+1=>if 3<=zhn l r then zlI l (r+1) f else r
def zdi (l:List CV):Int:=zlI l 1 l.length
def zin (k:Kn)(nu:Int)(d:List Int):Bool:=k.dag.any λc=>decide (c.au=nu)&&c.bl.any λx=>decide (zai x=zai d)
def zgT (k:Kn)(nu:Int)(acc:List (List Int))(b:BW):List (List Int):=if acc.length=3 then acc else if b.au=nu/\zin k nu b.d=false then acc++[b.d]else acc
def zb2 (k:Kn)(nu:Int)(acc:List (List Int))(l:List BW):List (List Int):=l.foldl (zgT k nu) acc
def Nd.header (n:Nd)(r:Int):CV:=⟨n.nu,r,zb2 n.k n.nu [] n.k.sh,dgF n.k.dag (r-1),[]⟩
def Nd.offerNew (n:Nd)(r:Int):Nd:=
 if(zaf n.k.tab (n.header r)).2.2=0/\n.room (zcl (n.header r))=true
  then({ n.log (zcl (n.header r)) { n.k with tab:=(zaf n.k.tab (n.header r)).1,own:=n.header r,slot:=(n.header r).slot } with vot:=[n.nu] }:Nd).sendAll (zcl (n.header r))
  else n
def Nd.againTo (n:Nd):Nat->Nd
 | 0=>n
 | j+1=>if(j:Int)∈n.vot then n.againTo j else((n.againTo j).sendB j n.k.own.bl).send j (zcl n.k.own)
def zcs (x:Int):Int:=(x+1) % 4
def ziY (k:Kn)(e:Int)(c:CV):Int:=if c.rd<e/\c.bl.any (λd=>!zb1 k.sh d)=true then c.rd else e
def zn (k:Kn)(e:Int)(l:List CV):Int:=l.foldl (ziY k) e
def Nd.turn (n:Nd):Int:=if zcs n.trn=n.nu then zcs (zcs n.trn)else zcs n.trn
def Nd.ask (n:Nd)(r:Int):Nd:=({ n with trn:=n.turn }:Nd).send n.turn (zrL (zn n.k (max (r-1) 1) n.k.dag))
def Nd.due (n:Nd)(r:Int):Nd:=if n.k.own.rd<r then n.offerNew r else if 0<=cOf n.k.dag n.k.own.au n.k.own.rd then n else n.againTo 4
def Nd.work (n:Nd):Nd:=(n.gather.due (zdi n.gather.k.dag)).ask (zdi n.gather.k.dag)
def zeo:Nat->List MC->List MC
 | _,[]=>[]
 | k,m::l=>if m.onTape.length<=k then m::zeo (k-m.onTape.length) l else []
def zd2 (nu:Int)(l:List BW):Int:=(l.foldl (λg b=>if b.au=nu then max g b.nu else g) 0)+1
def Nd.recall (n:Nd)(m:MC):Nd:={ n with k:=n.k.rcl m,vot:=if m.ki=2/\m.h.hf=0 then [n.nu]else n.vot }
def Nd.kept (n:Nd)(keep:Int):List MC:=zeo (zdT (zae n.recs).length n.syn keep) n.recs
def Nd.crash (n:Nd)(keep:Int):Nd:=
 let l:=(n.kept keep).foldl Nd.recall { Nd.z n.nu with recs:=n.kept keep,syn:=(zae (n.kept keep)).length }
 { l with nx:=zd2 n.nu l.k.sh }
structure Fl where
 (nd:List Nd) (no:No) (away:List MC) (codes:List Int)
def Fl.node (f:Fl)(i:Int):Nd:=f.nd.getD i.toNat (Nd.z 0)
def Fl.set (f:Fl)(i:Int)(n:Nd):Fl:={ f with nd:=f.nd.set i.toNat n }
def Fl.runs (f:Fl)(i:Int):Bool:=decide (i≠f.no.bad)&&(f.node i).up
def zfS (l:List GV)(g:GV):List GV:=if g∈l then l else if(zec l g).2=0 then(zec l g).1 else l
def No.sign (o:No)(m:MC):No:=
 if m.ki=2 then(if m.h.hf=0 then { o with sg:=zfS o.sg (m.fr,m.h.slot) } else o)
 else if m.ki=3 then { o with sg:=zfS o.sg (m.fr,m.s) } else o
def zct (l:List MC)(m:MC):List MC:=if l.length<400 then l++[m]else l
def Fl.out (f:Fl)(m:MC):Fl:={ f with no:=f.no.sign m,away:=zct f.away m }
def Fl.sync (f:Fl)(i:Int):Fl:=(f.node i).wai.foldl Fl.out (f.set i { f.node i with wai:=[],syn:=(zae (f.node i).recs).length })
def Fl.come (f:Fl)(i:Int)(m:MC):Fl:=if f.runs i then f.set i ((f.node i).hear f.no m)else f
def Fl.pick (f:Fl)(k p:Int):Fl:=
 if f.away.length=0 then f
 else if k=6 then { f with away:=zct f.away (f.away.getD (p.toNat % f.away.length) MC.z) }
 else if k=4 then({ f with away:=f.away.eraseIdx (p.toNat % f.away.length) }:Fl).come (f.away.getD (p.toNat % f.away.length) MC.z).tt (f.away.getD (p.toNat % f.away.length) MC.z)
 else { f with away:=f.away.eraseIdx (p.toNat % f.away.length) }
def Fl.flow (f:Fl):Fl:=f.away.foldl (λg m=>g.come m.tt m) { f with away:=[] }
def tbL (t:ByteArray):List Int:=t.toList.map λx=>(x.toNat:Int)
def zh2 (t:ByteArray):Option MC:=if zbt (tbL t)=0/\zP (pM (tbL t,false)).mv.m (pM (tbL t,false)).mv.car=0 then some (pM (tbL t,false))else none
def Fl.forge (f:Fl)(i:Int)(t:ByteArray):Fl:=match zh2 t with
 | some m=>if f.no.bad=-1 then f else f.come i m
 | none=>f
def Fl.submit (f:Fl)(i:Int)(t:ByteArray):Fl:=
 if f.runs i=false then { f with codes:=f.codes++[12] }
 else if zcD (f.node i).nx (f.node i).txs t=0 then { (f.set i { f.node i with txs:=(f.node i).txs++[t] })with codes:=f.codes++[0] }
 else { f with codes:=f.codes++[zcD (f.node i).nx (f.node i).txs t] }
def Fl.start (f:Fl)(i:Int):Fl:=if i=f.no.bad then f else f.set i { f.node i with up:=true }
def Fl.act (f:Fl)(k i p:Int)(t:ByteArray):Fl:=
 if k=4\/k=5\/k=6 then f.pick k p
 else if k=10 then f.flow
 else if k=1 then f.submit i t
 else if k=9 then f.forge i t
 else if k=8 then f.start i
 else if k=2\/k=3\/k=7 then
  (if f.runs i then(if k=2 then f.set i (f.node i).work else if k=3 then f.sync i else f.set i ((f.node i).crash p))else f)
 else f
def Fl.z (r:Int):Fl:=⟨[{ Nd.z 0 with up:=true },{ Nd.z 1 with up:=true },{ Nd.z 2 with up:=true },{ Nd.z 3 with up:=true }],⟨r,[]⟩,[],[]⟩
variable {rd au:Int}{k:Nat}{l:List SV}
theorem zrM (l:List SV)(s:SV):(za6 l s=(l,0)/\∃m,zbp l s.1 s.2.1 l.length=some m)\/za6 l s=([],7)\/za6 l s=([],6)\/(za6 l s=(l++[s],0)/\zbp l s.1 s.2.1 l.length=none/\l.length<400):=by
 cases h:zbp l s.1 s.2.1 l.length with
 | none=>
  by_cases hl:400<=l.length
  .exact .inr (.inr (.inl (ziH h hl)))
  .exact .inr (.inr (.inr ⟨zjL h hl,rfl,by omega⟩))
 | some m=>
  by_cases he:txL (zd1 l m).2.2=txL s.2.2
  .exact .inl ⟨ziG h he,m,rfl⟩
  .exact .inr (.inl (zhY h he))
theorem zm8 (h:zbp l au rd k=none):∀j,j<k->hit l au rd j=false:=by
 induction k with
 | zero=>intro j b;omega
 | succ k ih=>
  rw[zbp]at h;cases h1:zbp l au rd k with
  | some m=>rw[h1]at h;cases h
  | none=>
   rw[h1]at h;intro j b;rcases Nat.lt_or_ge j k with g|g
   .exact ih h1 j g
   .obtain rfl:j=k:=by omega
    cases h2:hit l au rd j with
    | false=>rfl
    | true=>rw[h2]at h;simp at h
theorem zrN {m:Nat}(h:zbp l au rd k=some m):m<k/\hit l au rd m=true/\∀j,j<m->hit l au rd j=false:=by
 induction k with
 | zero=>cases h
 | succ k ih=>
  rw[zbp]at h;cases h1:zbp l au rd k with
  | some n=>
   rw[h1]at h;obtain rfl:n=m:=by simpa using h
   obtain⟨a,b,c⟩:=ih h1;exact⟨by omega,b,c⟩
  | none=>
   rw[h1]at h;cases h2:hit l au rd k with
   | false=>rw[h2]at h;simp at h
   | true=>
    rw[h2]at h;obtain rfl:k=m:=by simpa using h
    exact⟨by omega,h2,zm8 h1⟩
structure Ac where
 (k i p:Int) (t:ByteArray)
def Fl.does (f:Fl)(a:Ac):Fl:=f.act a.k a.i a.p a.t
def Fl.run (f:Fl)(l:List Ac):Fl:=l.foldl Fl.does f
theorem Fl.run_append (f:Fl)(l m:List Ac):f.run (l++m)=(f.run l).run m:=List.foldl_append
theorem zp3 {f:Fl}{a:Ac}(h:a.k=1):f.does a=f.submit a.i a.t:=by
 rw[Fl.does,Fl.act,if_neg (by omega),if_neg (by omega),if_pos h]
theorem ztz (l:List MC)(f:Fl):(l.foldl Fl.out f).codes=f.codes:=by
 induction l generalizing f with
 | nil=>rfl
 | cons m l ih=>rw[List.foldl_cons,ih];rfl
theorem ziZ (f:Fl)(i:Int)(m:MC):(f.come i m).codes=f.codes:=by unfold Fl.come;split<;>rfl
def zkP (f:Fl)(l:List MC):Fl:=l.foldl (λg m=>g.come m.tt m) f
theorem zp4 (l:List MC)(f:Fl):(zkP f l).codes=f.codes:=by
 induction l generalizing f with
 | nil=>rfl
 | cons m l ih=>exact(ih _).trans (ziZ _ _ _)
theorem zfw (f:Fl):f.flow=zkP { f with away:=[] } f.away:=rfl
theorem zcq {P:Fl->Prop}{f:Fl}(i:Int)(t:ByteArray)(b:P f)(c:∀m,P (f.come i m)):P (f.forge i t):=by
 unfold Fl.forge
 split
 .split
  .exact b
  .exact c _
 .exact b
theorem zrO (f:Fl)(a:Ac):(f.does a).codes.length=f.codes.length+(if a.k=1 then 1 else 0):=by
 by_cases h1:a.k=1
 .rw[if_pos h1,zp3 h1];unfold Fl.submit
  split
  .simp
  .split<;>simp
 .rw[if_neg h1,Nat.add_zero];unfold Fl.does Fl.act
  split
  .unfold Fl.pick
   split
   .rfl
   .split
    .rfl
    .split
     .rw[ziZ]
     .rfl
  .split
   .rw[zfw,zp4]
   .split
    .exact zcq (P:=λg=>g.codes.length=f.codes.length) _ _ rfl (λm=>by rw[ziZ])
    .split
     .unfold Fl.start
      split<;>rfl
     .split
      .split
       .split
        .rfl
        .split
         .unfold Fl.sync;rw[ztz];rfl
         .rfl
       .rfl
      .rfl
variable {r:Int}
theorem zhI {m:Msg}{e:Int}(h:zP m e=0):(0<=m.fr/\m.fr<4)/\0<=m.tt/\m.tt<4:=by
 unfold zP at h
 split at h
 .cases h
 .rename_i g
  simp only[not_or,Decidable.not_not]at g;exact g
def zgd (l:List SV)(s:SV):Prop:=∃t∈l,t.1=s.1/\t.2.1=s.2.1/\txL t.2.2=txL s.2.2
def zoF (n:Nd)(m:MC):Prop:=(∃b,m=zed b/\zb1 n.k.sh b.d=true)\/m=zcl n.k.own\/(∃s,m=zcE s/\zgd n.k.tab s)\/(∃c,m=zdh c/\c∈n.k.dag)\/∃r,m=zrL r
structure StV (o:No)(n:Nd)(h:CV):Prop where
 other:h.au≠n.nu
 knows:n.k.knows h=true
 hf:h.hf=0
 signed:o.signed h.au h.slot=true
 cast:(zaf n.k.tab h).2.2=0
 more:n.k.tab.length<(zaf n.k.tab h).1.length
 room:n.room (zcE h.slot)=true
def zbP (o:No)(n n':Nd):Prop:=
 (∃d m,(0<=d/\d<4)/\zoF n m/\n'=n.send d m) \/
 (∃b,zbG n.k.sh b=true/\n.room (zed b)=true/\n'=n.log (zed b) { n.k with sh:=n.k.sh++[b] }) \/
 (∃h,StV o n h/\n'=n.log (zcE h.slot) { n.k with tab:=(zaf n.k.tab h).1 }) \/
 (∃c,n.proofs o c=true/\n'=n.log (zdh c) { n.k with dag:=n.k.dag++[c] }) \/
 (∃r,(zaf n.k.tab (n.header r)).2.2=0/\n.room (zcl (n.header r))=true/\n.k.own.rd<r/\r=zdi n.k.dag/\n'={ n.log (zcl (n.header r)) { n.k with tab:=(zaf n.k.tab (n.header r)).1,own:=n.header r,slot:=(n.header r).slot } with vot:=[n.nu] }) \/
 (∃fr,¬fr∈n.vot/\cOf n.k.dag n.k.slot.1 n.k.slot.2.1<0/\o.signed fr n.k.slot=true/\n'={ n with vot:=n.vot++[fr] }) \/
 (zb4 n.nx n.txs n.nu=0/\zb1 n.k.sh (⟨n.nu,n.nx,n.txs.take 4⟩:BW).d=true/\n'={ n with nx:=n.nx+1,txs:=n.txs.drop 4 }) \/
 (∃t,n'={ n with trn:=t })
def zad (o:No)(n m:Nd):Prop:=∀P:Nd->Prop,(∀a b,zbP o a b->P a->P b)->P n->P m
theorem zad.refl {o:No}{n:Nd}:zad o n n:=λ_ _ h=>h
theorem zad.tail {o:No}{n a b:Nd}(h:zad o n a)(s:zbP o a b):zad o n b:=λP c d=>c a b s (h P c d)
theorem zad.trans {o:No}{a b c:Nd}(h:zad o a b)(k:zad o b c):zad o a c:=λP d f=>k P d (h P d f)
theorem zad.one {o:No}{a b:Nd}(h:zbP o a b):zad o a b:=zad.refl.tail h
theorem zad.keeps {o:No}{P:Nd->Prop}(d:∀a b,zbP o a b->P a->P b){a b:Nd}(h:zad o a b)(c:P a):P b:=h P d c
theorem zbP.send {o:No}{n:Nd}{d:Int}(b:0<=d/\d<4){m:MC}(h:zoF n m):zbP o n (n.send d m):=.inl ⟨d,m,b,h,rfl⟩
theorem ze2 (n:Nd)(d:Int)(m:MC):(n.send d m).k=n.k:=by unfold Nd.send;split<;>rfl
theorem zmu (n:Nd)(d:Int)(m:MC):(n.send d m).nu=n.nu:=by unfold Nd.send;split<;>rfl
theorem zge (n:Nd)(d:Int)(m:MC):(n.send d m).vot=n.vot:=by unfold Nd.send;split<;>rfl
theorem zoG (o:No)(n:Nd)(m:MC)(h:zoF n m)(j:Nat)(c:j<=4):zad o n (n.sendTo m j)/\(n.sendTo m j).k=n.k/\(n.sendTo m j).nu=n.nu/\(n.sendTo m j).vot=n.vot:=by
 induction j with
 | zero=>exact⟨zad.refl,rfl,rfl,rfl⟩
 | succ j b=>
  have b:=b (by omega);refine⟨b.1.tail (zbP.send (by omega) ?_),(ze2 _ _ _).trans b.2.1,(zmu _ _ _).trans b.2.2.1,(zge _ _ _).trans b.2.2.2⟩;unfold zoF;rw[b.2.1];exact h
theorem zgK (o:No)(n:Nd)(m:MC)(h:zoF n m):zad o n (n.sendAll m):=(zoG o n m h 4 (by omega)).1
theorem zx7 {l:List BW}{d:List Int}{b:BW}(h:bOf l d=some b):b∈l:=List.mem_of_find?_eq_some h
theorem zm9 {l:List BW}{b:BW}(h:b∈l):zb1 l b.d=true:=by
 rw[zb1,List.any_eq_true];exact⟨b,h,by simp⟩
theorem zp5 (o:No)(n:Nd)(t:Int)(f:0<=t/\t<4)(d:List Int):zad o n (n.sendD t d)/\(n.sendD t d).k=n.k/\(n.sendD t d).nu=n.nu/\(n.sendD t d).vot=n.vot:=by
 unfold Nd.sendD
 split
 .rename_i b c
  exact⟨zad.one (zbP.send f (.inl ⟨b,rfl,zm9 (zx7 c)⟩)),ze2 _ _ _,zmu _ _ _,zge _ _ _⟩
 .exact⟨zad.refl,rfl,rfl,rfl⟩
theorem zkI (o:No)(t:Int)(g:0<=t/\t<4)(l:List (List Int))(n:Nd):zad o n (n.sendB t l)/\(n.sendB t l).k=n.k/\(n.sendB t l).nu=n.nu/\(n.sendB t l).vot=n.vot:=by
 induction l generalizing n with
 | nil=>exact⟨zad.refl,rfl,rfl,rfl⟩
 | cons d l ih=>
  obtain⟨a,b,c,e⟩:=zp5 o n t g d;obtain⟨a',b',c',f⟩:=ih (n.sendD t d);exact⟨a.trans a',b'.trans b,c'.trans c,f.trans e⟩
theorem zh3 (o:No)(n:Nd)(b:BW):zad o n (n.hearB b):=by
 unfold Nd.hearB
 split
 .rename_i h
  rw[Bool.and_eq_true]at h;exact zad.one (.inr (.inl ⟨b,h.1,h.2,rfl⟩))
 .exact zad.refl
theorem ztA {m:Nat}(h:hit l au rd m=true):(zd1 l m).1=au/\(zd1 l m).2.1=rd:=of_decide_eq_true h
theorem zvC {m:Nat}(h:m<l.length):zd1 l m∈l:=by simp[zd1,List.getD,h]
theorem zkJ {s:SV}(h:(za6 l s).2=0):zgd (za6 l s).1 s:=by
 unfold za6 at h|-
 split
 .rename_i m b
  rw[b]at h
  simp only at h
  split at h
  .rename_i e
   rw[if_pos e];obtain⟨d,c,_⟩:=zrN b;exact⟨zd1 l m,zvC d,(ztA c).1,(ztA c).2,e⟩
  .cases h
 .rename_i b
  rw[b]at h
  simp only at h
  split at h
  .cases h
  .rename_i e
   rw[if_neg e];exact⟨s,by simp,rfl,rfl,rfl⟩
theorem zgU {h:CV}(e:(zaf l h).2.2=0):zdt l=0/\h.hf=0/\(za6 l h.slot).2=0/\zaf l h=((za6 l h.slot).1,h.slot,0):=by
 unfold zaf zcL at e|-
 split at e
 .cases e
 .rename_i d
  split at e
  .rename_i b;exact absurd e b
  .rename_i b
   split at e
   .rename_i c;exact absurd e c
   .rename_i c
    rw[if_neg d,if_neg b,if_neg c];exact⟨by simpa using d,by simpa[CV.hf]using b,by simpa[CV.slot,CV.d]using c,rfl⟩
theorem zkK {h:CV}(e:(zaf l h).2.2=0):zgd (zaf l h).1 h.slot:=by
 obtain⟨_,_,b,c⟩:=zgU e;rw[c];exact zkJ b
theorem ztB {s:SV}(h:(za6 l s).2=0):((za6 l s).1=l/\zgd l s)\/((za6 l s).1=l++[s]/\zbp l s.1 s.2.1 l.length=none/\l.length<400):=by
 have b:=zkJ h;rcases zrM l s with⟨e,_⟩|e|e|⟨e,c,d⟩
 .rw[e]at b|-;exact .inl ⟨rfl,b⟩
 .rw[e]at h;cases h
 .rw[e]at h;cases h
 .rw[e];exact .inr ⟨rfl,c,d⟩
theorem zgf {h:CV}(e:(zaf l h).2.2=0):((zaf l h).1=l/\zgd l h.slot)\/((zaf l h).1=l++[h.slot]/\zbp l h.au h.rd l.length=none/\l.length<400):=by
 obtain⟨_,_,b,c⟩:=zgU e;rw[c];exact ztB b
theorem zy6 {h:CV}(e:h.hf=0):0<=h.au/\h.au<4:=by
 unfold CV.hf zO at e
 split at e
 .cases e
 .rename_i g
  simp only[not_or,Decidable.not_not]at g;exact g.1
theorem zp6 (o:No)(n:Nd)(h:CV):zad o n (n.hearO o h):=by
 unfold Nd.hearO
 split
 .exact zad.refl
 .rename_i f
  split
  .exact zad.refl
  .rename_i b
   have b:(zaf n.k.tab h).2.2=0:=by simpa using b
   simp only[not_or]at f;obtain⟨j,l,d,m⟩:=f;have g:0<=h.au/\h.au<4:=zy6 (by simpa using d)
   split
   .rename_i c
    split
    .rename_i p
     refine(zad.one (.inr (.inr (.inl ⟨h,⟨j,by simpa using l,by simpa using d,by simpa using m,b,c,p⟩,rfl⟩)))).tail (zbP.send g (.inr (.inr (.inl ⟨h.slot,rfl,?_⟩))));exact zkK b
    .exact zad.refl
   .rename_i c
    refine zad.one (zbP.send g (.inr (.inr (.inl ⟨h.slot,rfl,?_⟩))));rcases zgf b with⟨_,e⟩|⟨e,_,_⟩
    .exact e
    .rw[e]at c;simp at c
theorem zkL (o:No)(n:Nd)(c:CV):zad o n (n.hearP o c):=by
 unfold Nd.hearP
 split
 .rename_i h;exact zad.one (.inr (.inr (.inr (.inl ⟨c,h,rfl⟩))))
 .exact zad.refl
theorem zp7 (o:No)(n:Nd)(d:Int)(s:SV):zad o n (n.hearV o d s):=by
 unfold Nd.hearV
 split
 .exact zad.refl
 .rename_i f
  simp only[not_or]at f;obtain⟨c,m,g,j⟩:=f;have c:s=n.k.slot:=by simpa using c
  subst c;have b:zad o n { n with vot:=n.vot++[d] }:=zad.one (.inr (.inr (.inr (.inr (.inr (.inl ⟨d,g,by omega,by simpa using j,rfl⟩))))))
  split
  .exact b
  .split
   .rename_i l
    refine(b.trans (zkL o _ _)).trans (zgK o _ _ (.inr (.inr (.inr (.inl ⟨_,rfl,?_⟩)))));unfold Nd.hearP;rw[if_pos l];show _∈n.k.dag++[_]
    simp
   .exact b
theorem zvD (x c:CV)(l:List CV):c∈ziX x l->c=x\/c∈l:=by
 induction l with
 | nil=>intro h;simpa[ziX]using h
 | cons y l ih=>
  intro h;unfold ziX at h
  split at h
  .simpa using h
  .rcases List.mem_cons.1 h with e|e
   .exact .inr (by simp[e])
   .rcases ih e with g|g
    .exact .inl g
    .exact .inr (List.mem_cons_of_mem _ g)
theorem ztC (c:CV)(l:List CV):c∈zko l->c∈l:=by
 induction l with
 | nil=>intro h;cases h
 | cons y l ih=>
  intro h;rcases zvD y c (zko l) h with e|e
  .simp[e]
  .exact List.mem_cons_of_mem _ (ih e)
theorem zrP {l:List CV}{c:CV}(h:c∈zjU l r):c∈l:=by
 have:=ztC c _ (List.mem_of_mem_take h);exact(List.mem_filter.1 this).1
theorem zrQ (o:No)(t:Int)(d:0<=t/\t<4)(l:List CV)(n:Nd)(h:∀c∈l,c∈n.k.dag):zad o n (n.tell t l):=by
 induction l generalizing n with
 | nil=>exact zad.refl
 | cons c l ih=>
  obtain⟨a,b,_,_⟩:=zkI o t d c.bl n;have g:zad o n (n.tellC t c):=a.tail (zbP.send d (.inr (.inr (.inr (.inl ⟨c,rfl,by rw[b];exact h c (by simp)⟩)))));refine g.trans (ih _ (λc' f=>?_));rw[Nd.tellC,ze2,b];exact h c' (List.mem_cons_of_mem _ f)
theorem zfT (o:No)(n:Nd)(m:MC)(d:0<=m.fr/\m.fr<4):zad o n (n.hear o m):=by
 unfold Nd.hear
 split
 .exact zh3 o n _
 .split
  .exact zp6 o n _
  .split
   .exact zp7 o n _ _
   .split
    .exact zkL o n _
    .split
     .exact zrQ o _ d _ n (λc b=>zrP b)
     .exact zad.refl
theorem zvE (n:Nd)(b:BW):(n.hearB b).nx=n.nx/\(n.hearB b).txs=n.txs/\(n.hearB b).nu=n.nu/\(n.hearB b).k.dag=n.k.dag/\(n.hearB b).k.own=n.k.own:=by
 unfold Nd.hearB;split<;>exact⟨rfl,rfl,rfl,rfl,rfl⟩
theorem zoH (o:No)(n:Nd):zad o n n.gather:=by
 unfold Nd.gather
 split
 .exact zad.refl
 .rename_i c
  have c:zb4 n.nx n.txs n.nu=0:=by simpa using c
  obtain⟨f,g,j,_⟩:=zvE n ⟨n.nu,n.nx,n.txs.take 4⟩
  split
  .rename_i d
   refine(zh3 o n ⟨n.nu,n.nx,n.txs.take 4⟩).trans ?_;generalize l:n.hearB ⟨n.nu,n.nx,n.txs.take 4⟩=q at*;refine zad.trans (zad.one (b:={ q with nx:=n.nx+1,txs:=n.txs.drop 4 }) (.inr (.inr (.inr (.inr (.inr (.inr (.inl ?_)))))))) (zgK o _ _ (.inl ⟨_,rfl,d⟩));rw[f,g,j];exact⟨c,d,rfl⟩
  .exact zh3 o n _
theorem zmv (o:No)(n:Nd)(r:Int)(c:n.k.own.rd<r)(b:r=zdi n.k.dag):zad o n (n.offerNew r):=by
 unfold Nd.offerNew
 split
 .rename_i h
  exact(zad.one (.inr (.inr (.inr (.inr (.inl ⟨r,h.1,h.2,c,b,rfl⟩)))))).trans (zgK o _ _ (.inr (.inl rfl)))
 .exact zad.refl
theorem znJ (o:No)(n:Nd)(j:Nat)(d:j<=4):zad o n (n.againTo j)/\(n.againTo j).k=n.k:=by
 induction j with
 | zero=>exact⟨zad.refl,rfl⟩
 | succ j c=>
  have c:=c (by omega);unfold Nd.againTo
  split
  .exact c
  .obtain⟨a,b,_,_⟩:=zkI o j (by omega) n.k.own.bl (n.againTo j);refine⟨(c.1.trans a).tail (zbP.send (by omega) (.inr (.inl ?_))),(ze2 _ _ _).trans (b.trans c.2)⟩;rw[b,c.2]
theorem ztD (o:No)(n:Nd):zad o n (n.due (zdi n.k.dag)):=by
 unfold Nd.due
 split
 .rename_i h;exact zmv o n _ h rfl
 .split
  .exact zad.refl
  .exact(znJ o n 4 (by omega)).1
theorem ztE (x:Int):0<=zcs x/\zcs x<4:=by unfold zcs;omega
theorem zw9 (n:Nd):0<=n.turn/\n.turn<4:=by unfold Nd.turn;split<;>exact ztE _
theorem ztF (o:No)(n:Nd)(r:Int):zad o n (n.ask r):=
 (zad.one (.inr (.inr (.inr (.inr (.inr (.inr (.inr ⟨n.turn,rfl⟩)))))))).tail (zbP.send (zw9 n) (.inr (.inr (.inr (.inr ⟨_,rfl⟩)))))
theorem zgV (o:No)(n:Nd):zad o n n.work:=
 ((zoH o n).trans (ztD o n.gather)).trans (ztF o _ _)
theorem zh4 (l:List MC)(n:Nd):(l.foldl Nd.recall n).nu=n.nu/\(l.foldl Nd.recall n).up=n.up/\(l.foldl Nd.recall n).wai=n.wai/\(l.foldl Nd.recall n).recs=n.recs/\(l.foldl Nd.recall n).syn=n.syn/\(l.foldl Nd.recall n).txs=n.txs/\(l.foldl Nd.recall n).k=l.foldl Kn.rcl n.k/\(l.foldl Nd.recall n).trn=n.trn:=by
 induction l generalizing n with
 | nil=>exact⟨rfl,rfl,rfl,rfl,rfl,rfl,rfl,rfl⟩
 | cons m l ih=>
  obtain⟨a,b,c,d,e,g,h,j⟩:=ih (n.recall m);exact⟨a,b,c,d,e,g,h,j⟩
theorem zc8 (n:Nd)(p:Int):(n.crash p).nu=n.nu/\(n.crash p).up=false/\(n.crash p).wai=[]/\(n.crash p).recs=n.kept p/\(n.crash p).syn=(zae (n.kept p)).length/\(n.crash p).txs=[]/\(n.crash p).k=(n.kept p).foldl Kn.rcl Kn.z/\(n.crash p).trn=0:=by
 obtain⟨a,b,c,d,e,g,h,j⟩:=zh4 (n.kept p) { Nd.z n.nu with recs:=n.kept p,syn:=(zae (n.kept p)).length };exact⟨a,b,c,d,e,g,h,j⟩
variable {sa va:Option Addr}{cap:Nat}{bs vl:List Int}{ls:List Ct}
def zfq (c:Ct)(b:Nat):Prop:=(∃so,c.ba=some ⟨b,so,none⟩)\/(∃so,c.pa=some ⟨b,so,none⟩)\/(∃p,p∈c.bl++c.pl/\p.bs≠[]/\∃so,p.sa=some ⟨b,so,none⟩)\/(c.vl≠[]/\∃so,c.va=some ⟨b,so,none⟩)
theorem zfU (h:zg w sa cap bs)(g:∀b c,bs≠[]->sa=some ⟨b,c,none⟩->w'.heap[b]? = w.heap[b]?):zg w' sa cap bs:=by
 refine⟨h.le,h.max,h.some,h.nil,?_⟩;rcases h.bytes with d|⟨f,c,e,d⟩
 .exact .inl d
 .by_cases hn:bs=[]
  .exact .inl hn
  .exact .inr ⟨f,c,e,λk j=>(cB_ (g f c hn e)).trans (d k j)⟩
theorem zgg (h:zg w sa cap bs)(f:bs≠[])(b g:Nat)(e:sa=some ⟨b,g,none⟩):b<w.heap.size:=by
 rcases h.bytes with c|⟨j,m,d,c⟩
 .exact absurd c f
 .rw[e]at d;cases d;exact bL_ (c 0 (by cases bs with|nil=>exact absurd rfl f|cons a l=>simp))
theorem zna {f:List zi}(h:zx w sa cap f)(o:∀b c,sa=some ⟨b,c,none⟩->w'.heap[b]? = w.heap[b]?)(m:∀p,p∈f->∀b c,p.bs≠[]->p.sa=some ⟨b,c,none⟩->w'.heap[b]? = w.heap[b]?):zx w' sa cap f:=by
 refine⟨h.le,h.max,h.small,h.some,⟨?_,λp g=>zfU (h.parts.each p g) (m p g)⟩⟩;rcases h.parts.cells with d|⟨j,c,e,d⟩
 .exact .inl d
 .exact .inr ⟨j,c,e,λk l=>(cB_ (o j c e)).trans (d k l)⟩
theorem ztG (h:zax w va vl)(j:∀b c,vl≠[]->va=some ⟨b,c,none⟩->w'.heap[b]? = w.heap[b]?):zax w' va vl:=by
 refine⟨?_⟩;rcases h.cells with d|⟨f,c,e,d⟩
 .exact .inl d
 .by_cases hn:vl=[]
  .exact .inl hn
  .exact .inr ⟨f,c,e,λk g=>(cB_ (j f c hn e)).trans (d k g)⟩
theorem za7.keep {c:Ct}(h:za7 w c)(m:w.heap.size<=w'.heap.size)(f:∀b,zfq c b->w'.heap[b]? = w.heap[b]?):za7 w' c:=
 ⟨⟨zna h.hat.lb (λb d e=>f b (.inl ⟨d,e⟩)) (λp j b d g e=>f b (.inr (.inr (.inl ⟨p,List.mem_append_left _ j,g,d,e⟩)))),zna h.hat.lp (λb d e=>f b (.inr (.inl ⟨d,e⟩))) (λp j b d g e=>f b (.inr (.inr (.inl ⟨p,List.mem_append_right _ j,g,d,e⟩)))),λl d e=>nL_ (h.hat.rb l d e) m,λl d e=>nL_ (h.hat.rp l d e) m⟩,ztG h.ints (λb d g e=>f b (.inr (.inr (.inr ⟨g,d,e⟩)))),h.vle⟩
theorem za7.block_lt {c:Ct}(h:za7 w c)(b:Nat)(o:zfq c b):b<w.heap.size:=by
 rcases o with⟨d,e⟩|⟨d,e⟩|⟨p,g,f,d,e⟩|⟨f,d,e⟩
 .exact h.hat.rb b d e
 .exact h.hat.rp b d e
 .rcases List.mem_append.1 g with g|g
  .exact zgg (h.hat.lb.parts.each p g) f b d e
  .exact zgg (h.hat.lp.parts.each p g) f b d e
 .rcases h.ints.cells with j|⟨r,s,m,j⟩
  .exact absurd j f
  .rw[e]at m;cases m;exact bL_ (j 0 (by cases q:c.vl with|nil=>exact absurd q f|cons a l=>simp))
def zgy (w:World)(B:Nat)(v:Value)(ks:List Ct):Prop:=∀c∈ks,za7 w c/\∀b,zfq c b->B<=b/\v.ownBlock≠some b
theorem zgy.more {C:World}{v:Value}{A:List Ct}{c:Ct}{o:Obj}{F:Nat}{e:TypeId}(h:zgy w B v A)(I:B<=w.heap.size)(E:w.ownsRow B e F v n xs)(s:B_ w w2)
  (t:∀b,zfq c b->w.heap.size<=b) (z:za7 w2 c) (G:zV (w2.alloc o) v C v1):zgy C B v1 (A++[c]):=by
 have r:B_ w2 (w2.alloc o):=(bR_ _ _).alloc (nR_ _) _;have J:w2.heap.size<(w2.alloc o).heap.size:=by rw[zG];omega
 have q:=G.grown.size;have D:=s.size;intro d j;rcases List.mem_append.1 j with j|j
 .obtain⟨y,p⟩:=h d j;have l:=(y.below s).below r;refine⟨l.keep q (λb f=>G.grown.block b (l.block_lt b f) (λe=>(p b f).2 e.symm)),λb f=>⟨(p b f).1,λm=>?_⟩⟩;have:=y.block_lt b f;rcases G.fresh b m with g|g
  .exact(p b f).2 g
  .omega
 .obtain rfl:d=c:=by simpa using j
  have u:∀b,zfq d b->v.ownBlock≠some b:=λb f m=>by
   have H:=(E.lt b m).2;have D:=t b f;omega
  have l:=z.below r;refine⟨l.keep q (λb f=>G.grown.block b (l.block_lt b f) (λe=>u b f e.symm)),λb f=>⟨by have:=t b f;omega,λm=>?_⟩⟩;have:=z.block_lt b f;rcases G.fresh b m with g|g
  .exact u b f g
  .omega
theorem zoI:(prog.info? 64).map (λi=>(i.zero,i.size,i.bytes))=some (some (.agg #[I_ 0,I_ 0,O_,O_,O_]),5,88):=by kernel_rfl
def Ct.cs (c:Ct):List Value:=[I_ c.au,I_ c.rd,.slice c.ba c.bl.length c.bc,.slice c.pa c.pl.length c.pc,.slice c.va c.vl.length c.vc]
def ctv:List Ct->List Value
 | []=>[]
 | s::r=>s.cs++ctv r
theorem zvF (b:List Ct)(s:Ct):ctv (b++[s])=ctv b++s.cs:=by
 induction b with
 | nil=>simp[ctv]
 | cons x r ih=>simp[ctv,ih]
theorem ze3 (b:List Ct):(ctv b).length=b.length*5:=by
 induction b with
 | nil=>rfl
 | cons x r ih=>simp[ctv,ih,Ct.cs];omega
theorem zfx (b:List Ct)(j i:Nat)(h:j<b.length)(c:i<5):(ctv b)[j*5+i]? = (b[j]).cs[i]?:=by
 induction b generalizing j with
 | nil=>cases h
 | cons x r ih=>
  cases j with
  | zero=>simp only[ctv,Nat.zero_mul,Nat.zero_add,List.getElem_cons_zero];rw[List.getElem?_append_left (by simp[Ct.cs];exact c)]
  | succ j=>
   have h':j<r.length:=by simpa using h
   simp only[ctv,List.getElem_cons_succ];rw[List.getElem?_append_right (by simp[Ct.cs];omega),<-ih j h']
   congr 1
   simp[Ct.cs];omega
theorem zp8 {v:Value}(h:w.ownsRow base 64 5 v n (ctv ls))(y:zgy w base v ls):∃c rc,v=.slice c n rc/\n=ls.length/\(n<=3000000000000000000->zy5 w c rc ls)/\(∀b f,c=some ⟨b,f,none⟩->base<=b/\b<w.heap.size):=by
 have C:n=ls.length:=by have:=h.1;rw[ze3]at this;omega
 rcases h.2 with⟨rfl,D⟩|⟨g,l,G,rfl,d⟩
 .have z:ls=[]:=eN_ (by omega);subst D z;exact⟨none,0,rfl,rfl,λ_=>⟨nR_ _,by decide,by decide,.inl rfl,⟨.inl rfl⟩,λp E=>by cases E⟩,(λ_ _ e=>by cases e)⟩
 .refine⟨some ⟨g,0,none⟩,l,rfl,C,λI=>⟨?_,?_,by omega,.inr ⟨g,0,rfl⟩,⟨.inr ⟨g,0,rfl,λj B=>?_⟩⟩,λs F=>(y s F).1⟩,(λb f e=>by cases e;exact h.lt _ rfl)⟩
  .obtain⟨_,_,H,_⟩:=d;omega
  .obtain⟨_,_,_,u,_⟩:=d;exact u
  .have e:∀i,i<5->w.cell? ⟨g,j*5+i,none⟩=(ls[j]).cs[i]?:=λi A=>by rw[World.ownsRow.cellAt h (j*5+i) (by omega),zfx ls j i B A]
   have m:=e 0 (by omega);have o:=e 1 (by omega);have q:=e 2 (by omega);have r:=e 3 (by omega);have t:=e 4 (by omega);exact⟨by simpa[Ct.cs]using m,by simpa[Ct.cs]using o,by simpa[Ct.cs]using q,by simpa[Ct.cs]using r,by simpa[Ct.cs]using t⟩
end Go.Proofs.YtdnaljbnebnlhaaGreatDoor
