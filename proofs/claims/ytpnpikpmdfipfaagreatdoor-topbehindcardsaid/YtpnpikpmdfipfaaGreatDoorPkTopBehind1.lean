import Derived.Test.YtpnpikpmdfipfaaGreatDoorPkTopBehind0
import Derived.Test.YtpnpikpmdfipfaaGreatDoorPk21
set_option maxRecDepth 100000
set_option maxHeartbeats 4000000
namespace Go.Proofs.YtpnpikpmdfipfaaGreatDoor
open Go.RowKit _root_.Go.Proofs.Tryz
variable {k:Nat}
theorem zA3 {e:Nat}(h:okK e k=true):(Hd e k).au=((k % 4:Nat):Int):=by rw[zAW (zfF h).1]
theorem zAX {e:Nat}(h:okK e k=true):(Hd e k).rd=((k / 4:Nat):Int):=by rw[zAW (zfF h).1]
theorem zDg {e:Nat}(h:okK e k=true):(Hd e k).bl=[]:=by rw[zAW (zfF h).1]
theorem zDh {e:Nat}(h:okK e k=true):(Hd e k).vl=[]:=by rw[zAW (zfF h).1]
theorem zDz {e j:Nat}(c:okK e k=true)(b:okK e j=true)(d:(Hd e k).au=(Hd e j).au)(f:(Hd e k).rd=(Hd e j).rd):k=j:=by
 rw[zA3 c,zA3 b]at d;rw[zAX c,zAX b]at f;omega
theorem zDi {h:CV}(b:h.vl=[])(x y:Int):((zcl h).ft x y).h=h:=by
 obtain⟨au,rd,bl,pl,vl⟩:=h;dsimp only at b;subst b
 rfl
def MK (e:Nat)(o:No)(s:Bool)(x:MC)(m:Am):Prop:=
 (m.ki=2/\x.ki=2/\okK e m.ky=true/\x.h=Hd e m.ky/\m.ky % 4=m.fr/\(s=true->(x.fr,x.h.slot)∈o.sg)) \/
 (m.ki=3/\x.ki=3/\okK e m.ky=true/\x.s=(Hd e m.ky).slot/\(s=true->(x.fr,x.s)∈o.sg)) \/
 (m.ki=4/\x.ki=4/\Lg e m.ky x.ct/\zzQ o x.ct) \/
 (m.ki=5/\x.ki=5/\x.ro=(m.ky:Int))
structure MR (e:Nat)(o:No)(s:Bool)(x:MC)(m:Am):Prop where
 fr:x.fr=(m.fr:Int)
 tt:x.tt=(m.tt:Int)
 f4:m.fr<4
 t4:m.tt<4
 k:MK e o s x m
structure OW (e:Nat)(o:No)(g:Bool)(i:Nat)(h:CV)(s:SV)(k:Nat)(v:List Nat)(d:Nat):Prop where
 ok:okK e k=true
 own:h=Hd e k
 slot:s=(Hd e k).slot
 vin:i∈v
 vnd:v.Nodup
 vsg:∀x∈v,x<4/\(((x:Int),(Hd e k).slot)∈o.sg\/(g=true/\x=i))
 kno:zkQ e d k=true
 few:zaI d k=true\/v.length<3
structure NR (e:Nat)(o:No)(g:Bool)(i:Nat)(n:Nd)(a:An):Prop where
 nu:n.nu=(i:Int)
 up:n.up=a.up
 sh:n.k.sh=[]
 tx:n.txs=[]
 dag:DR e a.dag n.k.dag
 tab:∀s∈n.k.tab,∃k,okK e k=true/\s=(Hd e k).slot
 ord:n.k.own.rd=(a.own:Int)
 osl:n.k.slot.2.1=(a.own:Int)
 vot:n.vot=a.vot.map λv:Nat=>(v:Int)
 trn:n.trn=(a.trn:Int)
 own:0<a.own->OW e o g i n.k.own n.k.slot (4*a.own+i) a.vot a.dag
 wai:zdR (MR e o false) n.wai (a.wai.reverse.take 400)
theorem NR.wl {e:Nat}{o:No}{g:Bool}{i:Nat}{n:Nd}{a:An}(h:NR e o g i n a):n.wai.length=min 400 a.wai.length:=by
 have:=h.wai.len
 rwa [lT9_,List.length_reverse]at this
theorem NR.send {e:Nat}{o:No}{g:Bool}{i:Nat}{n:Nd}{a:An}(h:NR e o g i n a){t b c:Nat}{m:MC}(f:t≠i->MR e o false (m.ft i t) ⟨i,t,b,c⟩):NR e o g i (n.send t m) (a.send i t b c):=by
 have j:=h.wl;unfold Nd.send An.send;by_cases q:t=i;rw[iP_ (.inl (by rw[h.nu,q])),zlJ.2 q];exact h;rw[zAK q];show NR e o g i _ { a with wai:=⟨i,t,b,c⟩::a.wai };by_cases p:400<=n.wai.length;rw[iP_ (.inr p)]
 rotate_left
 rw[iN_ (by
  rintro(z|z)
  .rw[h.nu]at z;exact q (by omega)
  .exact p z)]
 rotate_left
 all_goals refine⟨h.nu,h.up,h.sh,h.tx,h.dag,h.tab,h.ord,h.osl,h.vot,h.trn,h.own,?_⟩
 show zdR (MR e o false) n.wai (((⟨i,t,b,c⟩:Am)::a.wai).reverse.take 400);rw[List.reverse_cons,List.take_append_of_le_length (by rw[List.length_reverse];omega)];exact h.wai;show zdR (MR e o false) (n.wai++[m.ft n.nu t]) (((⟨i,t,b,c⟩:Am)::a.wai).reverse.take 400);rw[List.reverse_cons,tL_ (by rw[lP_,List.length_reverse];show a.wai.length+1<=400;omega),h.nu];have d:=h.wai;rw[tL_ (by rw[List.length_reverse];omega)]at d;exact zdR.app (show zdR (MR e o false) [m.ft i t] [⟨i,t,b,c⟩]from⟨f q,trivial⟩) d
theorem NR.sendAll {e:Nat}{o:No}{g:Bool}{i:Nat}{n:Nd}{a:An}(h:NR e o g i n a){b c:Nat}{m:MC}(d:∀t:Nat,t<4->t≠i->MR e o false (m.ft i t) ⟨i,t,b,c⟩):NR e o g i (n.sendAll m) (a.sendAll i b c):=by
 show NR e o g i ((((n.send ((0:Nat):Int) m).send ((1:Nat):Int) m).send ((2:Nat):Int) m).send ((3:Nat):Int) m) ((((a.send i 0 b c).send i 1 b c).send i 2 b c).send i 3 b c);exact(((h.send (d 0 (by decide))).send (d 1 (by decide))).send (d 2 (by decide))).send (d 3 (by decide))
theorem zBv {e:Nat}(J:EOk e){l:List SV}(H:zdt l=0)(p:∀s∈l,∃k,okK e k=true/\s=(Hd e k).slot){k:Nat}(G:okK e k=true):(zaf l (Hd e k)).2.2=0:=by
 have N:l.length<=60:=by
  have t:(l.map λs:SV=>s.1.toNat+4*s.2.1.toNat).Nodup:=by
   rw[List.Nodup,List.pairwise_map,List.pairwise_iff_getElem];intro x y r z M q;obtain⟨j,b,c⟩:=p _ (gM_ r);obtain⟨i,F,d⟩:=p _ (gM_ z);have D:zd1 l x=l[x]:=by simp[zd1,r]
   have E:zd1 l y=l[y]:=by simp[zd1,z]
   have f:(l[x]).1=((j % 4:Nat):Int):=by rw[c];exact zA3 b
   have A:(l[y]).1=((i % 4:Nat):Int):=by rw[d];exact zA3 F
   have o:(l[x]).2.1=((j / 4:Nat):Int):=by rw[c];exact zAX b
   have B:(l[y]).2.1=((i / 4:Nat):Int):=by rw[d];exact zAX F
   rw[f,A,o,B]at q;exact zz0 H z M (by rw[D,E,f,A];omega) (by rw[D,E,o,B];omega)
  have u:=zBe 60 _ t (λx r=>by
   obtain⟨s,L,rfl⟩:=mM_.1 r;obtain⟨j,b,rfl⟩:=p s L;have f:(Hd e j).slot.1=((j % 4:Nat):Int):=zA3 b;have o:(Hd e j).slot.2.1=((j / 4:Nat):Int):=zAX b;have:=(zfF b).2.1;rw[f,o];omega)
  rwa [List.length_map]at u
 have I:(za6 l (Hd e k).slot).2=0:=by
  cases hm:zbp l (Hd e k).slot.1 (Hd e k).slot.2.1 l.length with
  | none=>rw[zjL hm (by omega)]
  | some m=>
   obtain⟨t,u,_⟩:=zrN hm;obtain⟨c,d⟩:=ztA u;obtain⟨j,b,C⟩:=p _ (zvC t);rw[C]at c d;have:=zDz b G c d;subst this;rw[ziG hm (by rw[C])]
 show(zcL l (Hd e k).au (Hd e k).rd (pz (Hd e k).bl) (pz (Hd e k).pl)).2.2=0;unfold zcL;rw[iN_ (λg=>g H),iN_ (λg=>g (zBf J G)),iN_ (λg=>g I)]
theorem zCe {e:Nat}(f:EOk e){l:List SV}(j:zdt l=0)(c:∀s∈l,∃k,okK e k=true/\s=(Hd e k).slot){k:Nat}(d:okK e k=true):∀s∈(zaf l (Hd e k)).1,∃k,okK e k=true/\s=(Hd e k).slot:=by
 intro s b;rcases zgf (zBv f j c d)with⟨g,_⟩|⟨g,_⟩;rw[g]at b;exact c s b;rw[g]at b;rcases mA_.1 b with h|h;exact c s h;exact⟨k,d,mS_.1 h⟩
theorem zBW {e:Nat}(b:EOk e){i k:Nat}(d:i<4)(c:okK e k=true):gF ((i:Int),(Hd e k).slot.1,(Hd e k).slot.2.1,(Hd e k).slot.2.2)=0:=by
 have h:=zAp (zBf b c);unfold gF zhD;rw[iN_ (by show ¬¬(0<=(i:Int)/\(i:Int)<4);omega)];exact h
theorem DR.knows {e d:Nat}{k:Kn}(f:EOk e)(h:DR e d k.dag){j:Nat}(b:okK e j=true):k.knows (Hd e j)=zkQ e d j:=by
 have c:=h.par f b;unfold Kn.knows;rw[zDg b,zAX b];show(([]:List (L_)).all _&&decide (zdz k.dag ((j / 4:Nat):Int) (Hd e j).pl=0))=_;rw[show([]:List (L_)).all (zb1 k.sh)=true from rfl,Bool.true_and];cases q:zkQ e d j with
 | true=>exact dT_ (c.2 q)
 | false=>exact dF_ λz=>by rw[c.1 z]at q;cases q
theorem NR.hearO {e:Nat}{o:No}{g:Bool}{i:Nat}{n:Nd}{a:An}{z:Int}(c:EOk e)(l:i<4)(G:Gen z i o n)(h:NR e o g i n a){k:Nat}(b:okK e k=true)(m:(((k % 4:Nat):Int),(Hd e k).slot)∈o.sg):NR e o g i (n.hearO o (Hd e k)) (a.hearO e i k):=by
 show NR e o g i (n.hearO o (Hd e k)) (bif Nat.beq (k % 4) i then a else bif zkQ e a.dag k then a.send i (k % 4) 3 k else a);have s:=h.dag.knows c b;have f:=zBf c b;have t:o.signed ((k % 4:Nat):Int) (Hd e k).slot=true:=zCc G.sg (by rw[G.bad];exact G.hb) (zBW c (by omega) b) m;have j:=zBv c G.kg.tab h.tab b;have r:=zCe c G.kg.tab h.tab b;unfold Nd.hearO;rw[s,zA3 b,t,h.nu];by_cases q:k % 4=i;rw[iP_ (.inl (by omega)),zlJ.2 q];exact h;rw[zAK q];cases p:zkQ e a.dag k with
 | false=>
  rw[iP_ (.inr (.inl rfl))];exact h
 | true=>
  rw[iN_ (by
   rintro(y|y|y|y)
   .omega
   .cases y
   .exact y f
   .cases y),iN_ (λy=>y j)]
  have d:∀u:Nd,k % 4≠i->MR e o false ((zcE (Hd e k).slot).ft i ((k % 4:Nat):Int)) ⟨i,k % 4,3,k⟩:=λ_ _=>⟨rfl,rfl,l,by show k % 4<4;omega,.inr (.inl ⟨rfl,rfl,b,rfl,λy=>by cases y⟩)⟩;show NR e o g i _ (a.send i (k % 4) 3 k)
  split
  rw[iP_ (G.room h.sh (zC0 f))];exact NR.send (n:=n.log (zcE (Hd e k).slot) { n.k with tab:=(zaf n.k.tab (Hd e k)).1 }) ⟨h.nu,h.up,h.sh,h.tx,h.dag,r,h.ord,h.osl,h.vot,h.trn,h.own,h.wai⟩ (d n);exact h.send (d n)
theorem NR.add {e:Nat}{o:No}{g:Bool}{i:Nat}{n:Nd}{a:An}(h:NR e o g i n a){k:Nat}{c:CV}(b:Lg e k c)(d:za8 n.k.dag c=0)(m:MC):NR e o g i (n.log m { n.k with dag:=n.k.dag++[c] }) (a.add k):=
 ⟨h.nu,h.up,h.sh,h.tx,h.dag.add b d,h.tab,h.ord,h.osl,h.vot,h.trn,λq=>by
  have w:=h.own q
  refine⟨w.ok,w.own,w.slot,w.vin,w.vnd,w.vsg,zBV (zfF w.ok).1 w.kno,?_⟩
  show zaI (Nat.lor a.dag (Nat.shiftLeft 1 k)) _=true\/_
  rw[zBC]
  rcases w.few with y|y
  .rw[show zaI a.dag (4*(a.add k).own+i)=true from y];exact .inl rfl
  .exact .inr y,h.wai⟩
theorem NR.hearP {e:Nat}{o:No}{g:Bool}{i:Nat}{n:Nd}{a:An}{z:Int}(f:EOk e)(G:Gen z i o n)(h:NR e o g i n a){k:Nat}{c:CV}(d:Lg e k c)(j:zzQ o c):NR e o g i (n.hearP o c) (a.hearP e k):=by
 have b:=h.dag.stk f d;unfold Nd.hearP An.hearP;by_cases q:za8 n.k.dag c=0;rw[iP_ (G.proofs h.sh q j),(b.1 q).1,(b.1 q).2];exact h.add d q _;rw[iN_ (by unfold Nd.proofs;simp[q])];cases y:zaI a.dag k with
 | true=>exact h
 | false=>
  cases x:zkQ e a.dag k with
  | false=>exact h
  | true=>exact absurd (b.2 ⟨y,x⟩) q
theorem NR.tell {e:Nat}{o:No}{g:Bool}{i b:Nat}(j:i<4)(f:b<4):∀{l:List CV} {d:List Nat},zdR (λc k=>Lg e k c/\zzQ o c) l d->∀{n:Nd} {a:An},NR e o g i n a->NR e o g i (n.tell b l) (a.tell i b d)
 | [],[],_,_,_,h=>h
 | c::l,k::d,hl,n,a,h=>by
  have m:n.tell b (c::l)=(n.send b (zdh c)).tell b l:=by
   show(n.tellC b c).tell b l=_;unfold Nd.tellC;rw[hl.1.1.bl];rfl
  rw[m];show NR e o g i _ ((a.send i b 4 k).tell i b d);exact NR.tell j f hl.2 (h.send λ_=>⟨rfl,rfl,j,f,.inr (.inr (.inl ⟨rfl,rfl,hl.1.1,hl.1.2⟩))⟩)
 | [],_::_,hl,_,_,_=>hl.elim
 | _::_,[],hl,_,_,_=>hl.elim
theorem NR.hearW {e:Nat}{o:No}{g:Bool}{i:Nat}{n:Nd}{a:An}{z:Int}(d:i<4)(G:Gen z i o n)(h:NR e o g i n a){b:Nat}(c:b<4)(r:Nat):NR e o g i (n.hearW b r) (a.hearW i b r):=
 NR.tell d c (zdR.imp (λ_ _ _ q=>⟨q.1,G.pr _ q.2⟩) (h.dag.certs r)) h
theorem NR.hearV {e:Nat}{o:No}{i:Nat}{n:Nd}{a:An}{z:Int}(C:EOk e)(hi:i<4)(G:Gen z i o n)(h:NR e o false i n a){b k:Nat}(L:b<4)(g:okK e k=true)(T:((b:Int),(Hd e k).slot)∈o.sg):NR e o false i (n.hearV o b (Hd e k).slot) (a.hearV i b k):=by
 have ae:o.signed (b:Int) (Hd e k).slot=true:=zCc G.sg (by rw[G.bad];exact G.hb) (zBW C L g) T;have R:(Hd e k).slot.2.1=((k / 4:Nat):Int):=zAX g;have aa:(Hd e k).slot.1=((k % 4:Nat):Int):=zA3 g;have k4:=(zfF g).1;show NR e o false i _ (bif Nat.beq a.own 0 then a else bif Nat.beq k (4*a.own+i)then(bif zaI a.dag k then a else bif zAg b a.vot then a else bif Nat.ble 2 a.vot.length then(({ a with vot:=a.vot++[b] }:An).add k).sendAll i 4 k else { a with vot:=a.vot++[b] })else a);unfold Nd.hearV;by_cases h0:a.own=0;rw[zlJ.2 h0,iP_ (.inl λq=>by
  have:=h.osl;rw[<-q,R,h0]at this;omega)]
 exact h;rw[zAK h0];have w:=h.own (by omega);by_cases q:k=4*a.own+i;rw[zlJ.2 q];show NR e o false i _ (bif zaI a.dag k then a else bif zAg b a.vot then a else bif Nat.ble 2 a.vot.length then(({ a with vot:=a.vot++[b] }:An).add k).sendAll i 4 k else { a with vot:=a.vot++[b] });rw[<-q]at w;have J:=h.dag.bit k;rw[aa,R];cases y:zaI a.dag k with
 | true=>
  rw[iP_ (.inr (.inl (J.1 y)))];exact h
 | false=>
  have ab:¬0<=cOf n.k.dag ((k % 4:Nat):Int) ((k / 4:Nat):Int):=λx=>by rw[J.2 x]at y;cases y
  show NR e o false i _ (bif zAg b a.vot then a else bif Nat.ble 2 a.vot.length then(({ a with vot:=a.vot++[b] }:An).add k).sendAll i 4 k else { a with vot:=a.vot++[b] });cases x:zAg b a.vot with
  | true=>
   rw[iP_ (.inr (.inr (.inl (by rw[h.vot];exact mM_.2 ⟨b,(zBu _ _).1 x,rfl⟩))))];exact h
  | false=>
   have N:b ∉ a.vot:=λp=>by rw[(zBu _ _).2 p]at x;cases x
   rw[iN_ (by
    rintro(p|p|p|p)
    .exact p w.slot.symm
    .exact ab p
    .rw[h.vot]at p;obtain⟨v,B,V⟩:=mM_.1 p;have:v=b:=by omega
     rw[this]at B;exact N B
    .rw[ae]at p;cases p)]
   have ag:n.vot.length=a.vot.length:=by rw[h.vot,List.length_map]
   have r:n.vot++[(b:Int)]=(a.vot++[b]).map λv:Nat=>(v:Int):=by rw[List.map_append,<-h.vot];rfl
   have D:i∈a.vot++[b]:=mA_.2 (.inl w.vin);have E:(a.vot++[b]).Nodup:=by
    rw[List.nodup_append];refine⟨w.vnd,by simp,λu hu v d p=>?_⟩;rw[mS_.1 d]at p;exact N (by rw[<-p];exact hu)
   have A:∀v∈a.vot++[b],v<4/\(((v:Int),(Hd e k).slot)∈o.sg\/(false=true/\v=i)):=λv d=>by
    rcases mA_.1 d with p|p;exact w.vsg v p;rw[mS_.1 p];exact⟨L,.inl T⟩
   have af:a.vot.length<3:=by
    rcases w.few with p|p;rw[y]at p;cases p;exact p
   show NR e o false i _ (bif Nat.ble 2 a.vot.length then(({ a with vot:=a.vot++[b] }:An).add k).sendAll i 4 k else { a with vot:=a.vot++[b] })
   split
   rename_i Y
   cases p:Nat.ble 2 a.vot.length with
   | true=>exact absurd (zl4.1 p) (by omega)
   | false=>
    refine⟨h.nu,h.up,h.sh,h.tx,h.dag,h.tab,h.ord,h.osl,r,h.trn,λ_=>?_,h.wai⟩;show OW e o false i n.k.own n.k.slot (4*a.own+i) (a.vot++[b]) a.dag;rw[<-q];refine⟨w.ok,w.own,w.slot,D,E,A,w.kno,.inr ?_⟩;rw[lP_];show a.vot.length+1<3;omega
   rename_i Y
   cases p:Nat.ble 2 a.vot.length with
   | false=>exact absurd (zCw p) (by omega)
   | true=>
    show NR e o false i _ ((({ a with vot:=a.vot++[b] }:An).add k).sendAll i 4 k);obtain⟨f,m⟩:∃f,f=n.vot++[(b:Int)]:=⟨_,rfl⟩;rw[<-m];have ac:f.length=3:=by rw[m,lP_];show n.vot.length+1=3;omega
    have ad:f.Nodup:=by
     rw[m,r,List.Nodup,List.pairwise_map];exact E.imp λX g2=>X (by omega)
    have M:∀v∈f,∃u:Nat,u∈a.vot++[b]/\v=(u:Int):=λv d=>by
     rw[m,r]at d;obtain⟨u,u1,u2⟩:=mM_.1 d;exact⟨u,u1,u2.symm⟩
    obtain⟨B,V⟩:=zDI ac ad (λv d=>by
     obtain⟨u,u1,u2⟩:=M v d;have:=(A u u1).1;omega)
    obtain⟨c,F⟩:∃c,c=({ n with vot:=f }:Nd).cert:=⟨_,rfl⟩;have j:c={ n.k.own with vl:=zhH f }:=F;rw[w.own]at j;have H:c.f=0:=by
     have hh:zO (Hd e k).au (Hd e k).rd (pz (Hd e k).bl) (pz (Hd e k).pl)=0:=zBf C g;rw[j];show zap (Hd e k).au (Hd e k).rd (pz (Hd e k).bl) (pz (Hd e k).pl) (zhH f)=0;unfold zap;rw[hh,iN_ (λp=>p rfl),V,iN_ (by decide)];exact B
    have l:Lg e k c:=⟨g,by rw[j];exact zA3 g,by rw[j];exact zAX g,by rw[j];exact zDg g,by rw[j],H⟩;have I:zzQ o c:=by
     refine⟨H,λv d=>.inr ?_⟩;have hd:=l.d;have d:∃u:Nat,u∈a.vot++[b]/\v=(u:Int):=by
      rcases d with p|p;refine⟨i,D,?_⟩;rw[p,l.au,q];omega;rw[j]at p;exact M v ((zDu v _).1 p)
     obtain⟨u,u1,u2⟩:=d;rw[u2,hd,show c.au=(Hd e k).au by rw[j],show c.rd=(Hd e k).rd by rw[j]];rcases(A u u1).2 with p|p;exact p;cases p.1
    rw[<-F];have U:za8 n.k.dag c=0:=(h.dag.stk C l).2 ⟨y,w.kno⟩;have O:({ n with vot:=f }:Nd).proofs o c=true:=G.proofs h.sh U I;have Z:({ n with vot:=f }:Nd).hearP o c=({ n with vot:=f }:Nd).log (zdh c) { n.k with dag:=n.k.dag++[c] }:=by
     unfold Nd.hearP;rw[iP_ O]
    rw[iP_ O,Z];refine NR.sendAll ?_ (λt ht _=>⟨rfl,rfl,hi,ht,.inr (.inr (.inl ⟨rfl,rfl,l,I⟩))⟩);refine⟨h.nu,h.up,h.sh,h.tx,h.dag.add l U,h.tab,h.ord,h.osl,by rw[m];exact r,h.trn,λ_=>?_,h.wai⟩;show OW e o false i n.k.own n.k.slot (4*a.own+i) (a.vot++[b]) (Nat.lor a.dag (Nat.shiftLeft 1 k));rw[<-q];exact⟨w.ok,w.own,w.slot,D,E,A,zBV k4 w.kno,.inl (by rw[zBC,dT_ rfl,Bool.or_true])⟩
 rw[zAK q,iP_ (.inl λp=>q (zDz g w.ok (cA_ (λs:SV=>s.1) (p.trans w.slot)) (cA_ (λs:SV=>s.2.1) (p.trans w.slot))))];exact h
theorem NR.hear {e:Nat}{o:No}{i:Nat}{n:Nd}{a:An}{z:Int}(p:EOk e)(q:i<4)(G:Gen z i o n)(h:NR e o false i n a){x:MC}{m:Am}(g:MR e o true x m):NR e o false i (n.hear o x) (a.hear e i m):=by
 show NR e o false i _ (bif Nat.beq m.ki 2 then a.hearO e i m.ky else bif Nat.beq m.ki 3 then a.hearV i m.fr m.ky else bif Nat.beq m.ki 4 then a.hearP e m.ky else a.hearW i m.fr m.ky);unfold Nd.hear;rcases g.k with⟨b,c,d,f,l,r⟩|⟨b,c,d,f,l⟩|⟨b,c,d,f⟩|⟨b,c,d⟩;rw[b,c,iN_ (by decide),iP_ rfl,f];have j:=r rfl;rw[g.fr,<-l,f]at j;exact h.hearO p q G d j;rw[b,c,iN_ (by decide),iN_ (by decide),iP_ rfl,f,g.fr];have j:=l rfl;rw[g.fr,f]at j;exact h.hearV p q G g.f4 d j;rw[b,c,iN_ (by decide),iN_ (by decide),iN_ (by decide),iP_ rfl];exact h.hearP p G d f;rw[b,c,iN_ (by decide),iN_ (by decide),iN_ (by decide),iN_ (by decide),iP_ rfl,g.fr,d];exact h.hearW q G g.f4 m.ky
theorem zCf {k:Kn}{e:Int}:∀{l:List CV},(∀c∈l,c.bl=[])->zn k e l=e
 | [],_=>rfl
 | c::l,h=>by
  show zn k (ziY k e c) l=e
  have:ziY k e c=e:=by
   unfold ziY;rw[h c (by simp),iN_ (by simp)]
  rw[this];exact zCf λx b=>h x (mC_ _ b)
theorem NR.ask {e:Nat}{o:No}{g:Bool}{i:Nat}{n:Nd}{a:An}(f:i<4)(h:NR e o g i n a){r:Nat}(s:1<=r):NR e o g i (n.ask r) (a.ask i r):=by
 have l:n.turn=(zBs i a.trn:Nat):=by
  have b:∀t:Nat,zcs (t:Int)=(nx4 t:Nat):=λt=>by
   show((t:Int)+1) % 4=(((t+1) % 4:Nat):Int);omega
  unfold Nd.turn zBs;rw[h.trn,h.nu,b];by_cases q:nx4 a.trn=i;rw[iP_ (by rw[q]),zlJ.2 q,b];rfl;rw[iN_ (by omega),zAK q];rfl
 have m:zBs i a.trn<4:=by
  have b:∀t:Nat,nx4 t<4:=λt=>Nat.mod_lt _ (by decide);unfold zBs;cases Nat.beq (nx4 a.trn) i with
  | true=>exact b _
  | false=>exact b _
 have p:zn n.k (max ((r:Int)-1) 1) n.k.dag=((bif Nat.ble r 2 then 1 else Nat.pred r:Nat):Int):=by
  rw[zCf λc d=>by obtain⟨k,j⟩:=h.dag.leg c d;exact j.bl];cases q:Nat.ble r 2 with
  | true=>
   have:=zl4.1 q;show max ((r:Int)-1) 1=((1:Nat):Int);omega
  | false=>
   have:=zCw q;show max ((r:Int)-1) 1=((r-1:Nat):Int);omega
 unfold Nd.ask An.ask;rw[p,l];exact NR.send (n:={ n with trn:=(zBs i a.trn:Nat) }) (a:={ a with trn:=zBs i a.trn }) ⟨h.nu,h.up,h.sh,h.tx,h.dag,h.tab,h.ord,h.osl,h.vot,rfl,h.own,h.wai⟩ λ_=>⟨rfl,rfl,f,m,.inr (.inr (.inr ⟨rfl,rfl,rfl⟩))⟩
theorem NR.again {e:Nat}{o:No}{g:Bool}{i:Nat}{n:Nd}{a:An}(b:i<4)(h:NR e o g i n a)(c:0<a.own):∀j:Nat,j<=4->NR e o g i (n.againTo j) (a.again i j)
 | 0,_=>h
 | j+1,hj=>by
  have f:=NR.again b h c j (by omega)
  have w:=h.own c
  show NR e o g i (if(j:Int)∈n.vot then n.againTo j else((n.againTo j).sendB j n.k.own.bl).send j (zcl n.k.own)) (bif zAg j a.vot then a.again i j else(a.again i j).send i j 2 (4*a.own+i))
  have d:(j:Int)∈n.vot↔j∈a.vot:=by
   rw[h.vot,mM_]
   constructor
   .rintro⟨u,u1,u2⟩;have:u=j:=by omega
    rw[<-this];exact u1
   .intro q;exact⟨j,q,rfl⟩
  cases q:zAg j a.vot with
  | true=>
   rw[iP_ (d.2 ((zBu _ _).1 q))];exact f
  | false=>
   rw[iN_ (λz=>by rw[(zBu _ _).2 (d.1 z)]at q;cases q),w.own,zDg w.ok];show NR e o g i ((n.againTo j).send j (zcl (Hd e (4*a.own+i)))) ((a.again i j).send i j 2 (4*a.own+i));exact f.send λ_=>⟨rfl,rfl,b,by show j<4;omega,.inl ⟨rfl,rfl,w.ok,zDi (zDh w.ok) _ _,by show(4*a.own+i) % 4=i;omega,λy=>by cases y⟩⟩
theorem NR.work {e:Nat}{o:No}{i:Nat}{n:Nd}{a:An}{z:Int}(C:EOk e)(j:i<4)(G:Gen z i o n)(h:NR e o false i n a)(hg:n.gather=n)(D:a.fine e i=true) :
  ∃g,NR e o g i n.work (a.work i)/\(g=true->∃x∈n.work.wai,x.ki=2/\x.fr=(i:Int)/\x.h=n.work.k.own):=by
 unfold An.fine at D;simp only[Bool.and_eq_true]at D;obtain⟨⟨s,M⟩,f⟩:=D;have s:=zl4.1 s;have M:=zl4.1 M;have hw:=h.wl;obtain⟨r,F⟩:∃r,r=a.next:=⟨_,rfl⟩;have aa:zdi n.k.dag=(r:Int):=by rw[F];exact h.dag.next (by show a.next<=14;omega)
 have H:1<=r:=by
  have:=(zhs h.dag.uq).1;omega
 rw[<-F]at s f;have V:n.work=(n.due r).ask r:=by unfold Nd.work;rw[hg,aa]
 have X:a.work i=(a.due i r).ask i r:=by unfold An.work;rw[<-F]
 rw[V,X];unfold Nd.due;rw[h.ord];show ∃g,NR e o g i _ ((bif Nat.blt a.own r then({ a with own:=r,vot:=[i] }:An).sendAll i 2 (4*r+i)else bif zaI a.dag (4*a.own+i)then a else a.again i 4).ask i r)/\_;by_cases q:a.own<r;have L:Nat.blt a.own r=true:=zl4.2 q;rw[L]at f|-;have f:(Nat.beq (zaR e (4*r+i)) (zaR a.dag (r-1))&&okK e (4*r+i))=true:=f;rw[Bool.and_eq_true]at f;have u:=zlJ.1 f.1;have b:=f.2;obtain⟨k,E⟩:∃k,k=4*r+i:=⟨_,rfl⟩;rw[<-E]at u b;have J:=(zfF b).1;have l:k / 4=r:=by omega
 have R:k % 4=i:=by omega
 have hh:n.header (r:Int)=Hd e k:=by
  have N:=h.dag.dg J (by rw[l];exact u);rw[l]at N;unfold Nd.header;rw[h.sh,h.nu,N,zAW J,l,R]
  rfl
 have Z:=zBv C G.kg.tab h.tab b;have I:=zCe C G.kg.tab h.tab b;rw[iP_ (by omega)];unfold Nd.offerNew;rw[hh,iP_ ⟨Z,G.room h.sh (zCW (zBf C b))⟩];obtain⟨c,m⟩:∃c:Nd,c={ n.log (zcl (Hd e k)) { n.k with tab:=(zaf n.k.tab (Hd e k)).1,own:=Hd e k,slot:=(Hd e k).slot } with vot:=[n.nu] }:=⟨_,rfl⟩;rw[<-m];have A:NR e o true i c { a with own:=r,vot:=[i] }:=by
  rw[m];refine⟨h.nu,h.up,h.sh,h.tx,h.dag,I,by rw[<-l];exact zAX b,by rw[<-l];exact zAX b,by show [n.nu]=_;rw[h.nu];rfl,h.trn,λ_=>?_,h.wai⟩;show OW e o true i (Hd e k) (Hd e k).slot (4*r+i) [i] a.dag;rw[<-E];refine⟨b,rfl,rfl,by simp,by simp,λx hx=>by rw[mS_.1 hx];exact⟨j,.inr ⟨rfl,rfl⟩⟩,?_,.inr (by show 1<3;decide)⟩;rw[zBt J,l];intro p hp;have:=(zA4.1 hp).2;rw[u,zBD,Bool.and_eq_true]at this;exact this.1
 have Y:NR e o true i (c.sendAll (zcl (Hd e k))) (({ a with own:=r,vot:=[i] }:An).sendAll i 2 k):=A.sendAll λt I _=>⟨rfl,rfl,j,I,.inl ⟨rfl,rfl,b,zDi (zDh b) _ _,R,λy=>by cases y⟩⟩;rw[<-E];refine⟨true,Y.ask j H,λ_=>?_⟩;obtain⟨d,T,U⟩:=other (i:=(i:Int));have O:=zBT (zcl (Hd e k)) (n:=c) (d:=d) (by rw[A.nu];exact U) 4 T (by rw[m];show n.wai.length+4<=400;omega);rw[A.nu]at O;refine⟨(zcl (Hd e k)).ft i d,?_,rfl,rfl,(zDi (zDh b) _ _).trans ?_⟩;unfold Nd.ask;obtain⟨y,y1,_⟩:=zBq ({ c.sendAll (zcl (Hd e k))with trn:=(c.sendAll (zcl (Hd e k))).turn }:Nd) (c.sendAll (zcl (Hd e k))).turn (zrL (zn (c.sendAll (zcl (Hd e k))).k (max ((r:Int)-1) 1) (c.sendAll (zcl (Hd e k))).k.dag));rw[y1];exact mA_.2 (.inl O);unfold Nd.ask;rw[ze2];show Hd e k=(c.sendAll (zcl (Hd e k))).k.own;rw[zAM,m]
 rfl
 have L:Nat.blt a.own r=false:=by
  cases y:Nat.blt a.own r with
  | true=>exact absurd (zl4.1 y) (by omega)
  | false=>rfl
 rw[L,iN_ (by omega)];have w:=h.own (by omega);have B:=h.dag.bit (4*a.own+i);refine⟨false,?_,λy=>by cases y⟩;show NR e o false i _ ((bif zaI a.dag (4*a.own+i)then a else a.again i 4).ask i r);rw[show(4*a.own+i) / 4=a.own by omega]at B;rw[w.own,zA3 w.ok];cases y:zaI a.dag (4*a.own+i)with
 | true=>
  rw[iP_ (B.1 y)];exact h.ask j H
 | false=>
  rw[iN_ (λx=>by rw[B.2 x]at y;cases y)];exact(h.again j (by omega) 4 (nR_ _)).ask j H
theorem MK.more {e:Nat}{o p:No}{s:Bool}{x:MC}{m:Am}(h:MK e o s x m)(t:p.bad=o.bad){d:List GV}(l:p.sg=o.sg++d):MK e p s x m:=by
 rcases h with⟨b,c,f,g,j,r⟩|⟨b,c,f,g,j⟩|⟨b,c,f,g⟩|h;exact .inl ⟨b,c,f,g,j,λq=>by rw[l];exact mA_.2 (.inl (r q))⟩;exact .inr (.inl ⟨b,c,f,g,λq=>by rw[l];exact mA_.2 (.inl (j q))⟩);exact .inr (.inr (.inl ⟨b,c,f,g.more t l⟩));exact .inr (.inr (.inr h))
theorem MR.more {e:Nat}{o b:No}{s:Bool}{x:MC}{m:Am}(h:MR e o s x m)(c:b.bad=o.bad){d:List GV}(f:b.sg=o.sg++d):MR e b s x m:=⟨h.fr,h.tt,h.f4,h.t4,h.k.more c f⟩
theorem OW.more {e:Nat}{o b:No}{i:Nat}{h:CV}{s:SV}{v:List Nat}{d:Nat}(w:OW e o false i h s k v d){x:List GV}(c:b.sg=o.sg++x):OW e b false i h s k v d:=
 ⟨w.ok,w.own,w.slot,w.vin,w.vnd,(λy f=>by
  obtain⟨g,j⟩:=w.vsg y f
  refine⟨g,.inl ?_⟩
  rcases j with q|q
  .rw[c];exact mA_.2 (.inl q)
  .cases q.1),w.kno,w.few⟩
theorem NR.more {e:Nat}{o b:No}{i:Nat}{n:Nd}{a:An}(h:NR e o false i n a)(f:b.bad=o.bad){d:List GV}(c:b.sg=o.sg++d):NR e b false i n a:=
 ⟨h.nu,h.up,h.sh,h.tx,h.dag,h.tab,h.ord,h.osl,h.vot,h.trn,λq=>(h.own q).more c,zdR.imp (λ_ _ _ q=>q.more f c) h.wai⟩
structure BZ (b:Nat)(z:Int):Prop where
 rg:-1<=z/\z<=3
 is:∀i:Nat,i<4->((i:Int)=z↔i=b)
structure FN (e b:Nat)(z:Int)(f:Fl)(A:Af):Prop where
 re:Rch z f
 ln:A.nd.length=4
 nd:∀i:Nat,i<4->i≠b->NR e f.no false i (f.node i) (A.node i)
structure FR (e b:Nat)(z:Int)(f:Fl)(A:Af):Prop where
 fn:FN e b z f A
 aw:zdR (MR e f.no true) f.away (A.aw.reverse.take 400)
theorem zCx (l:List An)(x:List Am)(k:Bool)(i j:Nat)(n:An)(h:l.length=4)(b:i<4):(⟨l.set i n,x,k⟩:Af).node j=if j=i then n else(⟨l,x,k⟩:Af).node j:=by
 show(l.set i n).getD j An.z=if j=i then n else l.getD j An.z;rw[List.getD_eq_getElem?_getD,List.getD_eq_getElem?_getD,List.getElem?_set];by_cases q:i=j;subst q;rw[iP_ rfl,iP_ rfl,iP_ (by omega)];rfl;rw[iN_ q,iN_ (λp=>q p.symm)]
theorem FN.runs {e b:Nat}{z:Int}{f:Fl}{A:Af}(d:BZ b z)(h:FN e b z f A){i:Nat}(c:i<4):f.runs i=A.runs b i:=by
 unfold Af.runs;by_cases q:i=b;rw[zlJ.2 q,zpG (by rw[h.re.bad];exact(d.is i c).2 q)];rfl;rw[zAK q,ziy (by rw[h.re.bad];exact λp=>q ((d.is i c).1 p)),(h.nd i c q).up];rfl
theorem FN.gd {b:Nat}{z:Int}{A:Af}(f:BZ b z){i:Nat}(d:i<4)(q:A.runs b i=true):i≠b/\Gd z i:=by
 have c:i≠b:=λp=>by
  unfold Af.runs at q;rw[zlJ.2 p]at q;cases q
 exact⟨c,⟨by omega,by omega⟩,λp=>c ((f.is i d).1 p)⟩
theorem FR.pair {e b:Nat}{z:Int}{f:Fl}{A:Af}(B:EOk e)(M:BZ b z)(h:FR e b z f A){i:Nat}(C:i<4)(F:(A.pair e b i).ok=true)(t:ByteArray):FR e b z ((f.does ⟨2,i,0,t⟩).does ⟨3,i,0,t⟩) (A.pair e b i):=by
 have G:=h.fn.runs M C;cases q:A.runs b i with
 | false=>
  rw[q]at G;have e1:f.does ⟨2,i,0,t⟩=f:=by rw[zBd rfl];show(if f.runs i then _ else _)=_;rw[G];rfl
  have e2:f.does ⟨3,i,0,t⟩=f:=by rw[zgB rfl];show(if f.runs i then _ else _)=_;rw[G];rfl
  have N:A.pair e b i=A:=by unfold Af.pair;rw[q];rfl
  rw[e1,e2,N];exact h
 | true=>
  obtain⟨ac,L⟩:=FN.gd M C q;have J:=h.fn.nd i C ac;have N:A.pair e b i=⟨A.nd.set i { (A.node i).work i with wai:=[] },((A.node i).work i).wai++A.aw,A.ok&&((A.node i).fine e i&&Nat.ble (A.aw.length+((A.node i).work i).wai.length) 400)⟩:=by unfold Af.pair;rw[q];rfl
  rw[N]at F|-;have F:(A.ok&&((A.node i).fine e i&&Nat.ble (A.aw.length+((A.node i).work i).wai.length) 400))=true:=F;simp only[Bool.and_eq_true]at F;obtain⟨_,k2,Z⟩:=F;have Z:=zl4.1 Z;have hG:=h.fn.re.gen M.rg L.1;obtain⟨g,c,w2⟩:=J.work B C hG (zDd h.fn.re L.1 J.tx J.nu) k2;have ad:=c.wl;have aa:=h.aw.len;rw[lT9_,List.length_reverse]at aa;have Y:(f.node i).up=true:=by
   rw[q,ziy (by rw[h.fn.re.bad];exact L.2)]at G;exact G
  obtain⟨O,ef,T,gp,⟨s,g2⟩,g3,g4,⟨sg,I⟩,U⟩:=zEi M.rg h.fn.re L Y (by
   rw[c.up,<-Y,J.up];have l:∀(a:An) (D t ki ky:Nat),(a.send D t ki ky).up=a.up:=λa D t ki ky=>by
    unfold An.send;cases Nat.beq t D<;>rfl
   have ha:∀(a:An) (D:Nat) (j:Nat),(a.again D j).up=a.up:=λa D j=>by
    induction j with
    | zero=>rfl
    | succ j ih=>
     unfold An.again;cases zAg j a.vot with
     | true=>exact ih
     | false=>exact(l _ _ _ _ _).trans ih
   unfold An.work An.ask An.due;rw[l];cases Nat.blt (A.node i).own (A.node i).next with
   | true=>
    show(((((_:An).send _ _ _ _).send _ _ _ _).send _ _ _ _).send _ _ _ _).up=_;rw[l,l,l,l]
   | false=>
    cases zaI (A.node i).dag (Nat.add (Nat.mul 4 (A.node i).own) i)with
    | true=>rfl
    | false=>exact ha _ _ _) t (by omega)
  rw[<-ef];have R:O.no.bad=f.no.bad:=by rw[T.bad,h.fn.re.bad]
  have X:=c.wai;rw[tL_ (by rw[List.length_reverse];omega)]at X;have V:=h.aw;rw[tL_ (by rw[List.length_reverse];omega)]at V;refine⟨⟨T,by rw[List.length_set];exact h.fn.ln,λj hj ab=>?_⟩,?_⟩;rw[zCx _ _ _ _ _ _ h.fn.ln C];by_cases p:j=i;subst p;rw[iP_ rfl,g2];refine⟨c.nu,c.up,c.sh,c.tx,c.dag,c.tab,c.ord,c.osl,c.vot,c.trn,λy=>?_,trivial⟩;have w:=c.own y;refine⟨w.ok,w.own,w.slot,w.vin,w.vnd,λv hv=>?_,w.kno,w.few⟩;obtain⟨v1,H⟩:=w.vsg v hv;refine⟨v1,.inl ?_⟩;rcases H with H|⟨H,v3⟩;rw[I];exact mA_.2 (.inl H);obtain⟨x,x1,x2,x3,x4⟩:=w2 H;have l:=(U x x1).1 x2;rw[x4,w.own]at l;have:=l (zBf B w.ok) (by rw[x3];exact zBW B C w.ok);rw[x3]at this;rw[v3];exact this;rw[iN_ p,g3 j (by omega) (by omega)];exact(h.fn.nd j hj ab).more R I;show zdR (MR e O.no true) O.away ((((A.node i).work i).wai++A.aw).reverse.take 400);rw[g4,tL_ (by rw[List.length_reverse,lP_];omega),List.reverse_append];refine zdR.app (zdR.imp (λx hx m d=>?_) X) (zdR.imp (λ_ _ _ y=>y.more R I) V);obtain⟨s1,s2⟩:=U x hx;refine⟨d.fr,d.tt,d.f4,d.t4,?_⟩;rcases d.k with⟨E,u,o,r,a5,_⟩|⟨E,u,o,r,_⟩|⟨E,u,o,r⟩|y;refine .inl ⟨E,u,o,r,a5,λ_=>s1 u (by rw[r];exact zBf B o) ?_⟩;rw[r,d.fr];exact zBW B d.f4 o;refine .inr (.inl ⟨E,u,o,r,λ_=>s2 u ?_⟩);rw[r,d.fr];exact zBW B d.f4 o;exact .inr (.inr (.inl ⟨E,u,o,r.more R I⟩));exact .inr (.inr (.inr y))
theorem FN.flow {e b:Nat}{z:Int}(D:EOk e)(o:BZ b z):∀(r:List Am) {f:Fl} {A:Af},FN e b z f A->zdR (MR e f.no true) f.away r->FN e b z f.flow (r.foldl (Af.come e b) A)/\f.flow.away=[]
 | [],f,A,h,c=>by
  cases q:f.away with
  | nil=>rw[zDK q];exact⟨h,q⟩
  | cons x l=>rw[q]at c;exact c.elim
 | m::r,f,A,h,c=>by
  cases q:f.away with
  | nil=>rw[q]at c;exact c.elim
  | cons x l=>
   rw[q]at c
   obtain⟨d,c⟩:=c
   have g:=h.re.does (a:=tkA) zpJ
   rw[zDv q]
   rw[zC2 q]at g|-
   have J:({ f.come x.tt x with away:=l }:Fl).no=f.no:=zew _ _ _
   refine FN.flow D o r (f:={ f.come x.tt x with away:=l }) ?_ (by rw[J];exact c)
   have F:=h.runs o d.t4
   have G:=h.re.len
   rw[d.tt]at g|-
   have E:∀j:Nat,({ f.come m.tt x with away:=l }:Fl).node j=(f.come m.tt x).node j:=λj=>rfl
   cases p:A.runs b m.tt with
   | false=>
    have t:f.come m.tt x=f:=iN_ (by rw[F,p];decide)
    have s:A.come e b m=A:=by unfold Af.come;rw[p];rfl
    rw[s]
    exact⟨g,h.ln,λj B C=>by rw[E,t];exact h.nd j B C⟩
   | true=>
    obtain⟨I,u⟩:=FN.gd o d.t4 p
    have t:f.come m.tt x=f.set m.tt ((f.node m.tt).hear f.no x):=iP_ (by rw[F,p])
    have s:A.come e b m=⟨A.nd.set m.tt ((A.node m.tt).hear e m.tt m),A.aw,A.ok⟩:=by unfold Af.come;rw[p];rfl
    have H:=(h.nd m.tt d.t4 I).hear D d.t4 (h.re.gen o.rg u.1) d
    rw[s]
    refine⟨g,by show(A.nd.set _ _).length=4;rw[List.length_set];exact h.ln,λj B C=>?_⟩
    rw[E,t,zCx _ _ _ _ _ _ h.ln d.t4]
    by_cases y:j=m.tt
    .subst y
     rw[iP_ rfl,set_here _ G u.1]
     exact H
    .rw[iN_ y,set_there _ u.1.1 (by omega) (by omega)]
     exact h.nd j B C
theorem zBg (e b:Nat):∀(c:List Am) (A:Af),(c.foldl (Af.come e b) A).ok=A.ok/\(c.foldl (Af.come e b) A).aw=A.aw
 | [],_=>⟨rfl,rfl⟩
 | m::c,A=>by
  obtain⟨d,f⟩:=zBg e b c (A.come e b m)
  have:(A.come e b m).ok=A.ok/\(A.come e b m).aw=A.aw:=by
   unfold Af.come;cases A.runs b m.tt<;>exact⟨rfl,rfl⟩
  exact⟨d.trans this.1,f.trans this.2⟩
theorem zAL {e b i:Nat}{A:Af}(h:(A.pair e b i).ok=true):A.ok=true:=by
 unfold Af.pair at h;cases q:A.runs b i with
 | false=>rw[q]at h;exact h
 | true=>
  rw[q]at h;have h:(A.ok&&_)=true:=h;rw[Bool.and_eq_true]at h;exact h.1
theorem FR.rnd {e b:Nat}{z:Int}{f:Fl}{A:Af}(d:EOk e)(j:BZ b z)(h:FR e b z f A)(l:(A.rnd e b).ok=true):FR e b z (f.run (zBL.map AV.ac)) (A.rnd e b)/\A.ok=true:=by
 rw[zEj];have r:f.run ((zfg 4).map AV.ac)=((((((((f.does ⟨2,(0:Nat),0,⟨#[]⟩⟩).does ⟨3,(0:Nat),0,⟨#[]⟩⟩).does ⟨2,(1:Nat),0,⟨#[]⟩⟩).does ⟨3,(1:Nat),0,⟨#[]⟩⟩).does ⟨2,(2:Nat),0,⟨#[]⟩⟩).does ⟨3,(2:Nat),0,⟨#[]⟩⟩).does ⟨2,(3:Nat),0,⟨#[]⟩⟩).does ⟨3,(3:Nat),0,⟨#[]⟩⟩):=rfl;rw[r];unfold Af.rnd Af.flow at l|-;rw[(zBg e b _ _).1]at l;have q:((((A.pair e b 0).pair e b 1).pair e b 2).pair e b 3).ok=true:=l;have p:=zAL q;have o:=zAL p;have m:=zAL o;have s:=h.pair d j (i:=0) (by decide) m ⟨#[]⟩;have t:=s.pair d j (i:=1) (by decide) o ⟨#[]⟩;have u:=t.pair d j (i:=2) (by decide) p ⟨#[]⟩;have c:=u.pair d j (i:=3) (by decide) q ⟨#[]⟩;generalize ((((A.pair e b 0).pair e b 1).pair e b 2).pair e b 3)=B at c|-;generalize ((((((((f.does ⟨2,(0:Nat),0,⟨#[]⟩⟩).does ⟨3,(0:Nat),0,⟨#[]⟩⟩).does ⟨2,(1:Nat),0,⟨#[]⟩⟩).does ⟨3,(1:Nat),0,⟨#[]⟩⟩).does ⟨2,(2:Nat),0,⟨#[]⟩⟩).does ⟨3,(2:Nat),0,⟨#[]⟩⟩).does ⟨2,(3:Nat),0,⟨#[]⟩⟩).does ⟨3,(3:Nat),0,⟨#[]⟩⟩)=g at c|-;obtain⟨y,C⟩:=FN.flow d j (B.aw.reverse.take 400) (A:={ B with aw:=[] }) ⟨c.fn.re,c.fn.ln,c.fn.nd⟩ c.aw;refine⟨⟨y,?_⟩,zAL m⟩;rw[C,(zBg e b _ _).2];exact trivial
def zzw:Nat->List AV
 | 0=>[]
 | k+1=>zzw k++zBL
theorem FR.rnds {e b:Nat}{z:Int}(c:EOk e)(d:BZ b z):∀(k:Nat) {f:Fl} {A:Af},FR e b z f A->(A.rnds e b k).ok=true->FR e b z (f.run ((zzw k).map AV.ac)) (A.rnds e b k)
 | 0,_,_,h,_=>h
 | k+1,f,A,h,hok=>by
  have g:f.run ((zzw (k+1)).map AV.ac)=(f.run ((zzw k).map AV.ac)).run (zBL.map AV.ac):=by
   show f.run ((zzw k++zBL).map AV.ac)=_;rw[List.map_append,Fl.run_append]
  rw[g];have j:∀B:Af,(B.rnd e b).ok=true->B.ok=true:=λB q=>by
   unfold Af.rnd Af.flow at q;rw[(zBg e b _ _).1]at q;exact zAL (zAL (zAL (zAL (show((((B.pair e b 0).pair e b 1).pair e b 2).pair e b 3).ok=true from q))))
  exact((FR.rnds c d k h (j _ hok)).rnd c d hok).1
theorem FR.start {e b:Nat}{z:Int}{f:Fl}{A:Af}(o:BZ b z)(h:FR e b z f A){i:Nat}(g:i<4):FR e b z (f.does ⟨8,i,0,⟨#[]⟩⟩) (A.start b i):=by
 have d:=h.fn.re.does (a:=⟨8,i,0,⟨#[]⟩⟩) (zzP (by decide) ⟨by omega,by omega⟩ (by decide));rw[zfZ rfl]at d|-;unfold Fl.start at d|-;unfold Af.start;dsimp only at d|-;by_cases q:i=b;rw[iP_ (by rw[h.fn.re.bad];exact(o.is i g).2 q),zlJ.2 q];exact h;have s:(i:Int)≠f.no.bad:=by rw[h.fn.re.bad];exact λp=>q ((o.is i g).1 p)
 rw[iN_ s]at d|-;rw[zAK q];refine⟨⟨d,by show(A.nd.set _ _).length=4;rw[List.length_set];exact h.fn.ln,λj l m=>?_⟩,h.aw⟩;have r:Af.node (bif false then A else A.set i { A.node i with up:=true }) j=if j=i then { A.node i with up:=true } else A.node j:=zCx A.nd A.aw A.ok i j _ h.fn.ln g;rw[r];by_cases p:j=i;subst p;rw[iP_ rfl,set_here _ h.fn.re.len ⟨by omega,by omega⟩];have c:=h.fn.nd j l m;exact⟨c.nu,rfl,c.sh,c.tx,c.dag,c.tab,c.ord,c.osl,c.vot,c.trn,c.own,c.wai⟩;rw[iN_ p,set_there _ (by omega) (by omega) (by omega)];exact h.fn.nd j l m
theorem FR.starts {e b:Nat}{z:Int}{f:Fl}{A:Af}(c:BZ b z)(h:FR e b z f A):FR e b z (f.run ((zhd 4).map AV.ac)) (A.starts b):=by
 show FR e b z ((((f.does ⟨8,(0:Nat),0,⟨#[]⟩⟩).does ⟨8,(1:Nat),0,⟨#[]⟩⟩).does ⟨8,(2:Nat),0,⟨#[]⟩⟩).does ⟨8,(3:Nat),0,⟨#[]⟩⟩) _;exact(((h.start c (i:=0) (by decide)).start c (i:=1) (by decide)).start c (i:=2) (by decide)).start c (i:=3) (by decide)
theorem NR.z (e:Nat)(o:No)(i:Nat)(u:Bool):NR e o false i { Nd.z i with up:=u } { An.z with up:=u }:=
 ⟨rfl,rfl,rfl,rfl,DR.z e,(λs b=>by cases b),rfl,rfl,rfl,rfl,(λq=>absurd q (by show ¬0<0;decide)),trivial⟩
theorem FR.z {e b:Nat}{z:Int}(u:BZ b z){i:Nat}(c:i<4)(r:i≠b):FR e b z ((Fl.z z).run [⟨7,i,0,⟨#[]⟩⟩]) (Af.z i):=by
 have d:∀j:Nat,j<4->(Fl.z z).node j={ Nd.z j with up:=true }:=λj f=>by
  rcases(by omega:j=0\/j=1\/j=2\/j=3)with q|q|q|q<;>subst q<;>rfl
 have s:(i:Int)≠z:=λp=>r ((u.is i c).1 p);have t:(Fl.z z).runs i=true:=by
  rw[ziy (by exact s),d i c]
 have l:(Fl.z z).run [⟨7,i,0,⟨#[]⟩⟩]=(Fl.z z).set i (Nd.z i):=by
  show(Fl.z z).does ⟨7,i,0,⟨#[]⟩⟩=_;rw[zjg rfl];show(if(Fl.z z).runs i then(Fl.z z).set i (((Fl.z z).node i).crash 0)else _)=_;rw[t,iP_ rfl,d i c]
  rfl
 have g:Rch z ((Fl.z z).run [⟨7,i,0,⟨#[]⟩⟩]):=⟨[⟨7,i,0,⟨#[]⟩⟩],(λa o=>by rw[mS_.1 o];exact zzP (by decide) ⟨by omega,by omega⟩ (by decide)),rfl⟩;rw[l]at g|-;refine⟨⟨g,by show(List.set _ _ _).length=4;rw[List.length_set];rfl,λj f y=>?_⟩,trivial⟩;have m:(Af.z i).node j=if j=i then An.z else { An.z with up:=true }:=by
  show Af.node ⟨(List.replicate 4 { An.z with up:=true }).set i An.z,[],true⟩ j=_;rw[zCx _ _ _ _ _ _ rfl c];by_cases p:j=i;rw[iP_ p,iP_ p];rw[iN_ p,iN_ p];rcases(by omega:j=0\/j=1\/j=2\/j=3)with q|q|q|q<;>subst q<;>rfl
 rw[m];by_cases p:j=i;subst p;rw[iP_ rfl,set_here _ rfl ⟨by omega,by omega⟩];exact NR.z e _ j false;rw[iN_ p,set_there _ (by omega) (by omega) (by omega),d j f];exact NR.z e _ j true
variable {n:Nat}
def zB7 (n x:Nat):Nat:=Nat.lor (Nat.mod (Nat.mul x (Nat.pow 2 (32-n))) 4294967296) (Nat.div x (Nat.pow 2 n))
def zCF (a b x:Nat):Nat:=Nat.mod (Nat.add a (Nat.add b x)) 4294967296
def zB8 (a b d x:Nat):Nat:=zB7 16 (Nat.xor d (zCF a b x))
def zCG (a b c d x:Nat):Nat:=Nat.mod (Nat.add c (zB8 a b d x)) 4294967296
def zB9 (a b c d x:Nat):Nat:=zB7 12 (Nat.xor b (zCG a b c d x))
def nmA (a b c d x y:Nat):Nat:=Nat.mod (Nat.add (zCF a b x) (Nat.add (zB9 a b c d x) y)) 4294967296
def nmD (a b c d x y:Nat):Nat:=zB7 8 (Nat.xor (zB8 a b d x) (nmA a b c d x y))
def nmC (a b c d x y:Nat):Nat:=Nat.mod (Nat.add (zCG a b c d x) (nmD a b c d x y)) 4294967296
def nmB (a b c d x y:Nat):Nat:=zB7 7 (Nat.xor (zB9 a b c d x) (nmC a b c d x y))
theorem zBE (x:Nat):x % 4294967296<4294967296:=Nat.mod_lt _ (by decide)
theorem zBF {x:Nat}(d:x<4294967296):zB7 n x<4294967296:=by
 have b:x*2 ^ (32-n) % 4294967296<2 ^ 32:=Nat.mod_lt _ (by decide);have c:x / 2 ^ n<2 ^ 32:=Nat.lt_of_le_of_lt (Nat.div_le_self _ _) d;exact Nat.or_lt_two_pow b c
theorem zzK {x y:Nat}(b:x<4294967296)(c:y<4294967296):Nat.xor x y<4294967296:=Nat.xor_lt_two_pow (n:=32) b c
theorem zBh (n x:Nat)(d:x<4294967296):zn9 (n:Int) (x:Int)=(zB7 n x:Nat):=by
 have b:((x:Int)*2 ^ (32-(n:Int)).toNat % 4294967296)=((x*2 ^ (32-n) % 4294967296:Nat):Int):=by
  rw[show(32-(n:Int)).toNat=32-n by omega];simp
 have c:((x:Int) / 2 ^ ((n:Int)).toNat)=((x / 2 ^ n:Nat):Int):=by simp
 unfold zn9;rw[b,c,u32_or_nat _ _ (zBE _) (Nat.lt_of_le_of_lt (Nat.div_le_self _ _) d)]
 rfl
theorem zz2 {x y:Nat}(b:x<4294967296)(c:y<4294967296):bits .xor .u32 (x:Int) (y:Int)=(Nat.xor x y:Nat):=u32_xor_nat x y b c
theorem zEl {a b c d x y:Nat}(_ha:a<4294967296)(j:b<4294967296)(_hc:c<4294967296)(l:d<4294967296) :
  (mA a b c d x y=(nmA a b c d x y:Nat)/\mB a b c d x y=(nmB a b c d x y:Nat)/\mC a b c d x y=(nmC a b c d x y:Nat)/\mD a b c d x y=(nmD a b c d x y:Nat))/\nmA a b c d x y<4294967296/\nmB a b c d x y<4294967296/\nmC a b c d x y<4294967296/\nmD a b c d x y<4294967296:=by
 have r:mA1 a b x=(zCF a b x:Nat):=by show((a:Int)+((b:Int)+(x:Int))) % 4294967296=(((a+(b+x)) % 4294967296:Nat):Int);omega
 have m:zCF a b x<4294967296:=zBE _;have u:mD1 a b d x=(zB8 a b d x:Nat):=by
  unfold mD1 zB8;rw[r,zz2 l m];exact zBh 16 _ (zzK l m)
 have q:zB8 a b d x<4294967296:=zBF (zzK l m);have t:mC1 a b c d x=(zCG a b c d x:Nat):=by unfold mC1;rw[u];show _=(((c+zB8 a b d x) % 4294967296:Nat):Int);omega
 have p:zCG a b c d x<4294967296:=zBE _;have s:mB1 a b c d x=(zB9 a b c d x:Nat):=by
  unfold mB1 zB9;rw[t,zz2 j p];exact zBh 12 _ (zzK j p)
 have o:zB9 a b c d x<4294967296:=zBF (zzK j p);have z:mA a b c d x y=(nmA a b c d x y:Nat):=by
  have e:mA a b c d x y=(mA1 a b x+(mB1 a b c d x+y)) % 4294967296:=by unfold mA mA1;omega
  rw[e,r,s];show _=(((zCF a b x+(zB9 a b c d x+y)) % 4294967296:Nat):Int);omega
 have f:nmA a b c d x y<4294967296:=zBE _;have B:mD a b c d x y=(nmD a b c d x y:Nat):=by
  unfold mD nmD;rw[z,u,zz2 q f];exact zBh 8 _ (zzK q f)
 have D:nmD a b c d x y<4294967296:=zBF (zzK q f);have A:mC a b c d x y=(nmC a b c d x y:Nat):=by
  have e:mC a b c d x y=(mC1 a b c d x+mD a b c d x y) % 4294967296:=by unfold mC mC1;omega
  rw[e,t,B];show _=(((zCG a b c d x+nmD a b c d x y) % 4294967296:Nat):Int);omega
 have g:nmC a b c d x y<4294967296:=zBE _;have C:mB a b c d x y=(nmB a b c d x y:Nat):=by
  unfold mB nmB;rw[A,s,zz2 o g];exact zBh 7 _ (zzK o g)
 exact⟨⟨z,C,A,B⟩,f,zBF (zzK o g),g,D⟩
def zam (l:List Nat):L_:=l.map λx:Nat=>(x:Int)
theorem zfL (l:List Nat)(i:Nat):(zam l).getD i 0=((l.getD i 0:Nat):Int):=by
 unfold zam;rw[List.getD_eq_getElem?_getD,List.getElem?_map,List.getD_eq_getElem?_getD];cases l[i]?<;>rfl
theorem zAV (l:List Nat)(i x:Nat):(zam l).set i (x:Int)=zam (l.set i x):=by unfold zam;rw[List.map_set]
def zqS (l:List Nat):Prop:=∀x∈l,x<4294967296
theorem zqS.getD {l:List Nat}(h:zqS l)(i:Nat):l.getD i 0<4294967296:=by
 rw[List.getD_eq_getElem?_getD];cases e:l[i]? with
 | none=>decide
 | some x=>exact h x (List.mem_of_getElem? e)
theorem zqS.set {l:List Nat}(h:zqS l)(i:Nat){x:Nat}(b:x<4294967296):zqS (l.set i x):=λy c=>by
 rcases List.mem_or_eq_of_mem_set c with q|q
 .exact h y q
 .rw[q];exact b
def zd6 (v:List Nat)(i j k l x y:Nat):List Nat:=
 (((v.set i (nmA (v.getD i 0) (v.getD j 0) (v.getD k 0) (v.getD l 0) x y)).set j (nmB (v.getD i 0) (v.getD j 0) (v.getD k 0) (v.getD l 0) x y)).set k (nmC (v.getD i 0) (v.getD j 0) (v.getD k 0) (v.getD l 0) x y)).set l (nmD (v.getD i 0) (v.getD j 0) (v.getD k 0) (v.getD l 0) x y)
theorem zDN {v:List Nat}(h:zqS v)(i j k l x y:Nat):zoa (zam v) i j k l x y=zam (zd6 v i j k l x y)/\zqS (zd6 v i j k l x y):=by
 obtain⟨⟨g,m,o,p⟩,b,c,d,f⟩:=zEl (x:=x) (y:=y) (h.getD i) (h.getD j) (h.getD k) (h.getD l);refine⟨?_,(((h.set i b).set j c).set k d).set l f⟩;unfold zoa zd6;rw[zfL,zfL,zfL,zfL,g,m,o,p,zAV,zAV,zAV,zAV]
def zf4 (m:List Nat)(r i:Nat)(v:List Nat):List Nat:=
 zd6 v (zaH.getD (i*4) 0) (zaH.getD (i*4+1) 0) (zaH.getD (i*4+2) 0) (zaH.getD (i*4+3) 0) (m.getD (zhT.getD (r*16+2*i) 0) 0) (m.getD (zhT.getD (r*16+(2*i+1)) 0) 0)
def zbz (m:List Nat)(r:Nat)(v:List Nat):Nat->List Nat
 | 0=>v
 | k+1=>zf4 m r k (zbz m r v k)
def zAN (m v:List Nat):Nat->List Nat
 | 0=>v
 | r+1=>zbz m r (zAN m v r) 8
theorem zBZ (m:List Nat)(r:Nat){v:List Nat}(h:zqS v):∀k,zeZ (zam m) r (zam v) k=zam (zbz m r v k)/\zqS (zbz m r v k)
 | 0=>⟨rfl,h⟩
 | k+1=>by
  obtain⟨b,c⟩:=zBZ m r h k
  show zob (zam m) r k (zeZ (zam m) r (zam v) k)=_/\zqS (zf4 m r k (zbz m r v k))
  rw[b]
  unfold zob zf4
  rw[zfL,zfL]
  exact zDN c _ _ _ _ _ _
theorem zBK (m:List Nat){v:List Nat}(h:zqS v):∀r,zcK (zam m) (zam v) r=zam (zAN m v r)/\zqS (zAN m v r)
 | 0=>⟨rfl,h⟩
 | r+1=>by
  obtain⟨b,c⟩:=zBK m h r
  show zeZ (zam m) r (zcK (zam m) (zam v) r) 8=_/\_
  rw[b]
  exact zBZ m r c 8
def qrN {R:Type}(a b c d x y:Nat)(k:Nat->Nat->Nat->Nat->R):R:=k (nmA a b c d x y) (nmB a b c d x y) (nmC a b c d x y) (nmD a b c d x y)
theorem zDO (a b c d x y:Nat)(k:Nat->Nat->Nat->Nat->List Nat)(i j n l p q:Nat):zd6 (qrN a b c d x y k) i j n l p q=qrN a b c d x y λe f g h=>zd6 (k e f g h) i j n l p q:=id rfl
theorem zEG (f g r s t u z A B C j l m o p q x y:Nat):zd6 [f,g,r,s,t,u,z,A,B,C,j,l,m,o,p,q] 0 4 8 12 x y=qrN f t B m x y λa b c d=>[a,g,r,s,b,u,z,A,c,C,j,l,d,o,p,q]:=id rfl
theorem zEH (f g r s t u z A B C j l m o p q x y:Nat):zd6 [f,g,r,s,t,u,z,A,B,C,j,l,m,o,p,q] 1 5 9 13 x y=qrN g u C o x y λa b c d=>[f,a,r,s,t,b,z,A,B,c,j,l,m,d,p,q]:=id rfl
theorem zEI (f g r s t u z A B C j l m o p q x y:Nat):zd6 [f,g,r,s,t,u,z,A,B,C,j,l,m,o,p,q] 2 6 10 14 x y=qrN r z j p x y λa b c d=>[f,g,a,s,t,u,b,A,B,C,c,l,m,o,d,q]:=id rfl
theorem zEJ (f g r s t u z A B C j l m o p q x y:Nat):zd6 [f,g,r,s,t,u,z,A,B,C,j,l,m,o,p,q] 3 7 11 15 x y=qrN s A l q x y λa b c d=>[f,g,r,a,t,u,z,b,B,C,j,c,m,o,p,d]:=id rfl
theorem zEK (f g r s t u z A B C j l m o p q x y:Nat):zd6 [f,g,r,s,t,u,z,A,B,C,j,l,m,o,p,q] 0 5 10 15 x y=qrN f u j q x y λa b c d=>[a,g,r,s,t,b,z,A,B,C,c,l,m,o,p,d]:=id rfl
theorem zEL (f g r s t u z A B C j l m o p q x y:Nat):zd6 [f,g,r,s,t,u,z,A,B,C,j,l,m,o,p,q] 1 6 11 12 x y=qrN g z l m x y λa b c d=>[f,a,r,s,t,u,b,A,B,C,j,c,d,o,p,q]:=id rfl
theorem zEM (f g r s t u z A B C j l m o p q x y:Nat):zd6 [f,g,r,s,t,u,z,A,B,C,j,l,m,o,p,q] 2 7 8 13 x y=qrN r A B o x y λa b c d=>[f,g,a,s,t,u,z,b,c,C,j,l,m,d,p,q]:=id rfl
theorem zEN (f g r s t u z A B C j l m o p q x y:Nat):zd6 [f,g,r,s,t,u,z,A,B,C,j,l,m,o,p,q] 3 4 9 14 x y=qrN s t C p x y λa b c d=>[f,g,r,a,b,u,z,A,B,c,j,l,m,o,d,q]:=id rfl
def zjn {R:Type}(m0 m1 m2 m3 m4 m5 m6 m7 m8 m9 m10 m11 m12 m13 m14 m15 v0 v1 v2 v3 v4 v5 v6 v7 v8 v9 v10 v11 v12 v13 v14 v15:Nat)(K:Nat->Nat->Nat->Nat->Nat->Nat->Nat->Nat->Nat->Nat->Nat->Nat->Nat->Nat->Nat->Nat->R):R:=
 qrN v0 v4 v8 v12 m0 m1 λv0 v4 v8 v12=>qrN v1 v5 v9 v13 m2 m3 λv1 v5 v9 v13=>qrN v2 v6 v10 v14 m4 m5 λv2 v6 v10 v14=>qrN v3 v7 v11 v15 m6 m7 λv3 v7 v11 v15=>qrN v0 v5 v10 v15 m8 m9 λv0 v5 v10 v15=>qrN v1 v6 v11 v12 m10 m11 λv1 v6 v11 v12=>qrN v2 v7 v8 v13 m12 m13 λv2 v7 v8 v13=>qrN v3 v4 v9 v14 m14 m15 λv3 v4 v9 v14=>K v0 v1 v2 v3 v4 v5 v6 v7 v8 v9 v10 v11 v12 v13 v14 v15
theorem zzO (b c o p q r s t u y d f g j l m z A H I J L M N O R B C D E F G:Nat):zd6 (zd6 (zd6 (zd6 (zd6 (zd6 (zd6 (zd6 [z,A,H,I,J,L,M,N,O,R,B,C,D,E,F,G] 0 4 8 12 b c) 1 5 9 13 o p) 2 6 10 14 q r) 3 7 11 15 s t) 0 5 10 15 u y) 1 6 11 12 d f) 2 7 8 13 g j) 3 4 9 14 l m=zjn b c o p q r s t u y d f g j l m z A H I J L M N O R B C D E F G λw0 T w2 w3 w4 w5 w6 w7 w8 w9 U V X Y Z aa=>[w0,T,w2,w3,w4,w5,w6,w7,w8,w9,U,V,X,Y,Z,aa]:=by
 rw[zEG];simp only[zDO,zEH,zEI,zEJ,zEK,zEL,zEM,zEN]
 rfl
theorem zAC (m:List Nat)(r:Nat)(v:List Nat):zf4 m r 0 v=zd6 v 0 4 8 12 (m.getD (zhT.getD (r*16+0) 0) 0) (m.getD (zhT.getD (r*16+1) 0) 0):=id rfl
theorem zAD (m:List Nat)(r:Nat)(v:List Nat):zf4 m r 1 v=zd6 v 1 5 9 13 (m.getD (zhT.getD (r*16+2) 0) 0) (m.getD (zhT.getD (r*16+3) 0) 0):=id rfl
theorem zAE (m:List Nat)(r:Nat)(v:List Nat):zf4 m r 2 v=zd6 v 2 6 10 14 (m.getD (zhT.getD (r*16+4) 0) 0) (m.getD (zhT.getD (r*16+5) 0) 0):=id rfl
theorem zAF (m:List Nat)(r:Nat)(v:List Nat):zf4 m r 3 v=zd6 v 3 7 11 15 (m.getD (zhT.getD (r*16+6) 0) 0) (m.getD (zhT.getD (r*16+7) 0) 0):=id rfl
theorem zAG (m:List Nat)(r:Nat)(v:List Nat):zf4 m r 4 v=zd6 v 0 5 10 15 (m.getD (zhT.getD (r*16+8) 0) 0) (m.getD (zhT.getD (r*16+9) 0) 0):=id rfl
theorem zAH (m:List Nat)(r:Nat)(v:List Nat):zf4 m r 5 v=zd6 v 1 6 11 12 (m.getD (zhT.getD (r*16+10) 0) 0) (m.getD (zhT.getD (r*16+11) 0) 0):=id rfl
theorem zAI (m:List Nat)(r:Nat)(v:List Nat):zf4 m r 6 v=zd6 v 2 7 8 13 (m.getD (zhT.getD (r*16+12) 0) 0) (m.getD (zhT.getD (r*16+13) 0) 0):=id rfl
theorem zAJ (m:List Nat)(r:Nat)(v:List Nat):zf4 m r 7 v=zd6 v 3 4 9 14 (m.getD (zhT.getD (r*16+14) 0) 0) (m.getD (zhT.getD (r*16+15) 0) 0):=id rfl
theorem zzT (m:List Nat)(r:Nat)(v:List Nat):zbz m r v 8=zf4 m r 7 (zf4 m r 6 (zf4 m r 5 (zf4 m r 4 (zf4 m r 3 (zf4 m r 2 (zf4 m r 1 (zf4 m r 0 v))))))):=id rfl
theorem zDP (b c o p q r s t u y d f g j l m z A H I J L M N O R B C D E F G:Nat):zbz [b,c,o,p,q,r,s,t,u,y,d,f,g,j,l,m] 0 [z,A,H,I,J,L,M,N,O,R,B,C,D,E,F,G] 8=zjn b c o p q r s t u y d f g j l m z A H I J L M N O R B C D E F G λw0 T w2 w3 w4 w5 w6 w7 w8 w9 U V X Y Z aa=>[w0,T,w2,w3,w4,w5,w6,w7,w8,w9,U,V,X,Y,Z,aa]:=by
 rw[zzT,zAC,zAD,zAE,zAF,zAG,zAH,zAI,zAJ];exact zzO b c o p q r s t u y d f g j l m z A H I J L M N O R B C D E F G
theorem zDQ (b c o p q r s t u y d f g j l m z A H I J L M N O R B C D E F G:Nat):zbz [b,c,o,p,q,r,s,t,u,y,d,f,g,j,l,m] 1 [z,A,H,I,J,L,M,N,O,R,B,C,D,E,F,G] 8=zjn l d q u y m j s c g b o f t r p z A H I J L M N O R B C D E F G λw0 T w2 w3 w4 w5 w6 w7 w8 w9 U V X Y Z aa=>[w0,T,w2,w3,w4,w5,w6,w7,w8,w9,U,V,X,Y,Z,aa]:=by
 rw[zzT,zAC,zAD,zAE,zAF,zAG,zAH,zAI,zAJ];exact zzO l d q u y m j s c g b o f t r p z A H I J L M N O R B C D E F G
theorem zDR (b c o p q r s t u y d f g j l m z A H I J L M N O R B C D E F G:Nat):zbz [b,c,o,p,q,r,s,t,u,y,d,f,g,j,l,m] 2 [z,A,H,I,J,L,M,N,O,R,B,C,D,E,F,G] 8=zjn f u g b r o m j d l p s t c y q z A H I J L M N O R B C D E F G λw0 T w2 w3 w4 w5 w6 w7 w8 w9 U V X Y Z aa=>[w0,T,w2,w3,w4,w5,w6,w7,w8,w9,U,V,X,Y,Z,aa]:=by
 rw[zzT,zAC,zAD,zAE,zAF,zAG,zAH,zAI,zAJ];exact zzO f u g b r o m j d l p s t c y q z A H I J L M N O R B C D E F G
theorem zDS (b c o p q r s t u y d f g j l m z A H I J L M N O R B C D E F G:Nat):zbz [b,c,o,p,q,r,s,t,u,y,d,f,g,j,l,m] 3 [z,A,H,I,J,L,M,N,O,R,B,C,D,E,F,G] 8=zjn t y p c j g f l o s r d q b m u z A H I J L M N O R B C D E F G λw0 T w2 w3 w4 w5 w6 w7 w8 w9 U V X Y Z aa=>[w0,T,w2,w3,w4,w5,w6,w7,w8,w9,U,V,X,Y,Z,aa]:=by
 rw[zzT,zAC,zAD,zAE,zAF,zAG,zAH,zAI,zAJ];exact zzO t y p c j g f l o s r d q b m u z A H I J L M N O R B C D E F G
theorem zDT (b c o p q r s t u y d f g j l m z A H I J L M N O R B C D E F G:Nat):zbz [b,c,o,p,q,r,s,t,u,y,d,f,g,j,l,m] 4 [z,A,H,I,J,L,M,N,O,R,B,C,D,E,F,G] 8=zjn y b r t o q d m l c f g s u p j z A H I J L M N O R B C D E F G λw0 T w2 w3 w4 w5 w6 w7 w8 w9 U V X Y Z aa=>[w0,T,w2,w3,w4,w5,w6,w7,w8,w9,U,V,X,Y,Z,aa]:=by
 rw[zzT,zAC,zAD,zAE,zAF,zAG,zAH,zAI,zAJ];exact zzO y b r t o q d m l c f g s u p j z A H I J L M N O R B C D E F G
theorem zDU (b c o p q r s t u y d f g j l m z A H I J L M N O R B C D E F G:Nat):zbz [b,c,o,p,q,r,s,t,u,y,d,f,g,j,l,m] 5 [z,A,H,I,J,L,M,N,O,R,B,C,D,E,F,G] 8=zjn o g s d b f u p q j t r m l c y z A H I J L M N O R B C D E F G λw0 T w2 w3 w4 w5 w6 w7 w8 w9 U V X Y Z aa=>[w0,T,w2,w3,w4,w5,w6,w7,w8,w9,U,V,X,Y,Z,aa]:=by
 rw[zzT,zAC,zAD,zAE,zAF,zAG,zAH,zAI,zAJ];exact zzO o g s d b f u p q j t r m l c y z A H I J L M N O R B C D E F G
theorem zDV (b c o p q r s t u y d f g j l m z A H I J L M N O R B C D E F G:Nat):zbz [b,c,o,p,q,r,s,t,u,y,d,f,g,j,l,m] 6 [z,A,H,I,J,L,M,N,O,R,B,C,D,E,F,G] 8=zjn g r c m l j q d b t s p y o u f z A H I J L M N O R B C D E F G λw0 T w2 w3 w4 w5 w6 w7 w8 w9 U V X Y Z aa=>[w0,T,w2,w3,w4,w5,w6,w7,w8,w9,U,V,X,Y,Z,aa]:=by
 rw[zzT,zAC,zAD,zAE,zAF,zAG,zAH,zAI,zAJ];exact zzO g r c m l j q d b t s p y o u f z A H I J L M N O R B C D E F G
theorem zDW (b c o p q r s t u y d f g j l m z A H I J L M N O R B C D E F G:Nat):zbz [b,c,o,p,q,r,s,t,u,y,d,f,g,j,l,m] 7 [z,A,H,I,J,L,M,N,O,R,B,C,D,E,F,G] 8=zjn j f t l g c p y r b m q u s o d z A H I J L M N O R B C D E F G λw0 T w2 w3 w4 w5 w6 w7 w8 w9 U V X Y Z aa=>[w0,T,w2,w3,w4,w5,w6,w7,w8,w9,U,V,X,Y,Z,aa]:=by
 rw[zzT,zAC,zAD,zAE,zAF,zAG,zAH,zAI,zAJ];exact zzO j f t l g c p y r b m q u s o d z A H I J L M N O R B C D E F G
theorem zDX (b c o p q r s t u y d f g j l m z A H I J L M N O R B C D E F G:Nat):zbz [b,c,o,p,q,r,s,t,u,y,d,f,g,j,l,m] 8 [z,A,H,I,J,L,M,N,O,R,B,C,D,E,F,G] 8=zjn s m l y f p b u g o j t c q d r z A H I J L M N O R B C D E F G λw0 T w2 w3 w4 w5 w6 w7 w8 w9 U V X Y Z aa=>[w0,T,w2,w3,w4,w5,w6,w7,w8,w9,U,V,X,Y,Z,aa]:=by
 rw[zzT,zAC,zAD,zAE,zAF,zAG,zAH,zAI,zAJ];exact zzO s m l y f p b u g o j t c q d r z A H I J L M N O R B C D E F G
theorem zDY (b c o p q r s t u y d f g j l m z A H I J L M N O R B C D E F G:Nat):zbz [b,c,o,p,q,r,s,t,u,y,d,f,g,j,l,m] 9 [z,A,H,I,J,L,M,N,O,R,B,C,D,E,F,G] 8=zjn d o u q t s c r m f y l p g j b z A H I J L M N O R B C D E F G λw0 T w2 w3 w4 w5 w6 w7 w8 w9 U V X Y Z aa=>[w0,T,w2,w3,w4,w5,w6,w7,w8,w9,U,V,X,Y,Z,aa]:=by
 rw[zzT,zAC,zAD,zAE,zAF,zAG,zAH,zAI,zAJ];exact zzO d o u q t s c r m f y l p g j b z A H I J L M N O R B C D E F G
theorem zDj (m:List Nat)(r:Nat)(b c p q s t u y z A d f g j l o B C J L M N O R T U D E F G H I:Nat)(K:Nat->Nat->Nat->Nat->Nat->Nat->Nat->Nat->Nat->Nat->Nat->Nat->Nat->Nat->Nat->Nat->List Nat):zbz m r (zjn b c p q s t u y z A d f g j l o B C J L M N O R T U D E F G H I K) 8=zjn b c p q s t u y z A d f g j l o B C J L M N O R T U D E F G H I λw0 V w2 w3 w4 w5 w6 w7 w8 w9 X Y Z aa ab ac=>zbz m r (K w0 V w2 w3 w4 w5 w6 w7 w8 w9 X Y Z aa ab ac) 8:=id rfl
def zDk (m0 m1 m2 m3 m4 m5 m6 m7 m8 m9 m10 m11 m12 m13 m14 m15 v0 v1 v2 v3 v4 v5 v6 v7 v8 v9 v10 v11 v12 v13 v14 v15:Nat):List Nat:=
 zjn m0 m1 m2 m3 m4 m5 m6 m7 m8 m9 m10 m11 m12 m13 m14 m15 v0 v1 v2 v3 v4 v5 v6 v7 v8 v9 v10 v11 v12 v13 v14 v15 λv0 v1 v2 v3 v4 v5 v6 v7 v8 v9 v10 v11 v12 v13 v14 v15=>zjn m14 m10 m4 m8 m9 m15 m13 m6 m1 m12 m0 m2 m11 m7 m5 m3 v0 v1 v2 v3 v4 v5 v6 v7 v8 v9 v10 v11 v12 v13 v14 v15 λv0 v1 v2 v3 v4 v5 v6 v7 v8 v9 v10 v11 v12 v13 v14 v15=>zjn m11 m8 m12 m0 m5 m2 m15 m13 m10 m14 m3 m6 m7 m1 m9 m4 v0 v1 v2 v3 v4 v5 v6 v7 v8 v9 v10 v11 v12 v13 v14 v15 λv0 v1 v2 v3 v4 v5 v6 v7 v8 v9 v10 v11 v12 v13 v14 v15=>zjn m7 m9 m3 m1 m13 m12 m11 m14 m2 m6 m5 m10 m4 m0 m15 m8 v0 v1 v2 v3 v4 v5 v6 v7 v8 v9 v10 v11 v12 v13 v14 v15 λv0 v1 v2 v3 v4 v5 v6 v7 v8 v9 v10 v11 v12 v13 v14 v15=>zjn m9 m0 m5 m7 m2 m4 m10 m15 m14 m1 m11 m12 m6 m8 m3 m13 v0 v1 v2 v3 v4 v5 v6 v7 v8 v9 v10 v11 v12 v13 v14 v15 λv0 v1 v2 v3 v4 v5 v6 v7 v8 v9 v10 v11 v12 v13 v14 v15=>zjn m2 m12 m6 m10 m0 m11 m8 m3 m4 m13 m7 m5 m15 m14 m1 m9 v0 v1 v2 v3 v4 v5 v6 v7 v8 v9 v10 v11 v12 v13 v14 v15 λv0 v1 v2 v3 v4 v5 v6 v7 v8 v9 v10 v11 v12 v13 v14 v15=>zjn m12 m5 m1 m15 m14 m13 m4 m10 m0 m7 m6 m3 m9 m2 m8 m11 v0 v1 v2 v3 v4 v5 v6 v7 v8 v9 v10 v11 v12 v13 v14 v15 λv0 v1 v2 v3 v4 v5 v6 v7 v8 v9 v10 v11 v12 v13 v14 v15=>zjn m13 m11 m7 m14 m12 m1 m3 m9 m5 m0 m15 m4 m8 m6 m2 m10 v0 v1 v2 v3 v4 v5 v6 v7 v8 v9 v10 v11 v12 v13 v14 v15 λv0 v1 v2 v3 v4 v5 v6 v7 v8 v9 v10 v11 v12 v13 v14 v15=>zjn m6 m15 m14 m9 m11 m3 m0 m8 m12 m2 m13 m7 m1 m4 m10 m5 v0 v1 v2 v3 v4 v5 v6 v7 v8 v9 v10 v11 v12 v13 v14 v15 λv0 v1 v2 v3 v4 v5 v6 v7 v8 v9 v10 v11 v12 v13 v14 v15=>zjn m10 m2 m8 m4 m7 m6 m1 m5 m15 m11 m9 m14 m3 m12 m13 m0 v0 v1 v2 v3 v4 v5 v6 v7 v8 v9 v10 v11 v12 v13 v14 v15 λv0 v1 v2 v3 v4 v5 v6 v7 v8 v9 v10 v11 v12 v13 v14 v15=>[v0,v1,v2,v3,v4,v5,v6,v7,v8,v9,v10,v11,v12,v13,v14,v15]
theorem zCl (b c o p q r s t u y d f g j l m z A H I J L M N O R B C D E F G:Nat):zAN [b,c,o,p,q,r,s,t,u,y,d,f,g,j,l,m] [z,A,H,I,J,L,M,N,O,R,B,C,D,E,F,G] 10=zDk b c o p q r s t u y d f g j l m z A H I J L M N O R B C D E F G:=by
 have e:zAN [b,c,o,p,q,r,s,t,u,y,d,f,g,j,l,m] [z,A,H,I,J,L,M,N,O,R,B,C,D,E,F,G] 10=zbz [b,c,o,p,q,r,s,t,u,y,d,f,g,j,l,m] 9 (zbz [b,c,o,p,q,r,s,t,u,y,d,f,g,j,l,m] 8 (zbz [b,c,o,p,q,r,s,t,u,y,d,f,g,j,l,m] 7 (zbz [b,c,o,p,q,r,s,t,u,y,d,f,g,j,l,m] 6 (zbz [b,c,o,p,q,r,s,t,u,y,d,f,g,j,l,m] 5 (zbz [b,c,o,p,q,r,s,t,u,y,d,f,g,j,l,m] 4 (zbz [b,c,o,p,q,r,s,t,u,y,d,f,g,j,l,m] 3 (zbz [b,c,o,p,q,r,s,t,u,y,d,f,g,j,l,m] 2 (zbz [b,c,o,p,q,r,s,t,u,y,d,f,g,j,l,m] 1 (zbz [b,c,o,p,q,r,s,t,u,y,d,f,g,j,l,m] 0 [z,A,H,I,J,L,M,N,O,R,B,C,D,E,F,G] 8) 8) 8) 8) 8) 8) 8) 8) 8) 8:=id rfl;rw[e,zDP];simp only[zDj,zDQ,zDR,zDS,zDT,zDU,zDV,zDW,zDX,zDY]
 rfl
def shN (b j:Nat):Nat:=Nat.mod (Nat.mul (Nat.mod b 4294967296) (Nat.pow 2 (Nat.mul 8 j))) 4294967296
def zD6 (a b c d:Nat):Nat:=Nat.lor (Nat.lor (Nat.lor (shN a 0) (shN b 1)) (shN c 2)) (shN d 3)
def zBi:Nat->List Nat->List Nat
 | 0,_=>[]
 | f+1,l=>zD6 (l.getD 0 0) (l.getD 1 0) (l.getD 2 0) (l.getD 3 0)::zBi f (l.drop 4)
def zz4 (bs:List Nat):Nat->List Nat
 | 0=>List.replicate 16 0
 | k+1=>(zz4 bs k).set (k / 4) (Nat.lor ((zz4 bs k).getD (k / 4) 0) (shN (bs.getD k 0) (k % 4)))
theorem zEV {x y:Nat}(b:x<4294967296)(c:y<4294967296):Nat.lor x y<4294967296:=Nat.or_lt_two_pow (n:=32) b c
theorem zB0 (bs:List Nat):∀k,zbr (zam bs) k=zam (zz4 bs k)/\zqS (zz4 bs k)
 | 0=>⟨rfl,λx j=>by rw[List.eq_of_mem_replicate j];decide⟩
 | k+1=>by
  obtain⟨g,c⟩:=zB0 bs k
  have e:((bs.getD k 0:Nat):Int) % 4294967296*2 ^ (8*(k % 4)) % 4294967296=((shN (bs.getD k 0) (k % 4):Nat):Int):=by
   have f:((2:Int) ^ (8*(k % 4)))=((2 ^ (8*(k % 4)):Nat):Int):=by simp
   show _=((bs.getD k 0 % 4294967296*2 ^ (8*(k % 4)) % 4294967296:Nat):Int);rw[f];generalize bs.getD k 0=b;generalize 2 ^ (8*(k % 4))=p;rw[Int.natCast_emod,Int.natCast_mul,Int.natCast_emod]
   rfl
  have d:shN (bs.getD k 0) (k % 4)<4294967296:=zBE _;refine⟨?_,c.set _ (zEV (c.getD _) d)⟩;rw[zbr,g,zfL,zfL,e,u32_or_nat _ _ (c.getD _) d];exact zAV _ _ _
def wdN (bs:List Nat)(k i:Nat):Nat:=Nat.lor (Nat.lor (Nat.lor (if 4*i<k then shN (bs.getD (4*i) 0) 0 else 0) (if 4*i+1<k then shN (bs.getD (4*i+1) 0) 1 else 0)) (if 4*i+2<k then shN (bs.getD (4*i+2) 0) 2 else 0)) (if 4*i+3<k then shN (bs.getD (4*i+3) 0) 3 else 0)
theorem zBj (x:Nat):Nat.lor x 0=x:=Nat.or_zero x
theorem zDZ (x:Nat):Nat.lor 0 x=x:=Nat.zero_or x
theorem zEm {bs:List Nat}{i:Nat}(h:k / 4≠i):wdN bs (k+1) i=wdN bs k i:=by
 unfold wdN;have b:∀j,j<4->((4*i+j<k+1)↔(4*i+j<k)):=λj d=>by omega
 have c:(4*i<k+1)↔(4*i<k):=b 0 (by decide);simp only[c,b 1 (by decide),b 2 (by decide),b 3 (by decide)]
theorem zEn {bs:List Nat}:wdN bs (k+1) (k / 4)=Nat.lor (wdN bs k (k / 4)) (shN (bs.getD k 0) (k % 4)):=by
 unfold wdN;rcases(by omega:k % 4=0\/k % 4=1\/k % 4=2\/k % 4=3)with h|h|h|h<;>rw[h];have e:k=4*(k / 4):=by omega
 rw[iP_ (by omega),iN_ (by omega),iN_ (by omega),iN_ (by omega),iN_ (by omega),iN_ (by omega),iN_ (by omega),iN_ (by omega),<-e];simp only[zBj,zDZ];have e:k=4*(k / 4)+1:=by omega
 rw[iP_ (by omega),iP_ (by omega),iN_ (by omega),iN_ (by omega),iP_ (by omega),iN_ (by omega),iN_ (by omega),iN_ (by omega),<-e];simp only[zBj];have e:k=4*(k / 4)+2:=by omega
 rw[iP_ (by omega),iP_ (by omega),iP_ (by omega),iN_ (by omega),iP_ (by omega),iP_ (by omega),iN_ (by omega),iN_ (by omega),<-e];simp only[zBj];have e:k=4*(k / 4)+3:=by omega
 rw[iP_ (by omega),iP_ (by omega),iP_ (by omega),iP_ (by omega),iP_ (by omega),iP_ (by omega),iP_ (by omega),iN_ (by omega),<-e];simp only[zBj]
theorem zBy (bs:List Nat)(k:Nat):(zz4 bs k).length=16:=by
 induction k with
 | zero=>rfl
 | succ k ih=>rw[zz4,List.length_set,ih]
theorem zCJ (bs:List Nat):∀k,k<=64->∀i,i<16->(zz4 bs k).getD i 0=wdN bs k i
 | 0,_,i,hi=>by
  have:wdN bs 0 i=0:=by
   unfold wdN;rw[iN_ (by omega),iN_ (by omega),iN_ (by omega),iN_ (by omega)];rfl
  rw[this,zz4,List.getD_eq_getElem?_getD,List.getElem?_replicate]
  split<;>rfl
 | k+1,hk,i,hi=>by
  have b:=zCJ bs k (by omega);have c:=zBy bs k;rw[zz4,List.getD_eq_getElem?_getD,List.getElem?_set];by_cases q:k / 4=i
  .rw[iP_ q,iP_ (by omega),b _ (by omega)];show Nat.lor (wdN bs k (k / 4)) _=_;rw[<-q,zEn]
  .rw[iN_ q,zEm q,<-List.getD_eq_getElem?_getD];exact b i hi
theorem zDA:∀(f:Nat) (l:List Nat) (i:Nat),i<f->(zBi f l).getD i 0=zD6 (l.getD (4*i) 0) (l.getD (4*i+1) 0) (l.getD (4*i+2) 0) (l.getD (4*i+3) 0)
 | 0,_,_,h=>absurd h (by omega)
 | f+1,l,0,_=>rfl
 | f+1,l,i+1,h=>by
  have b:=zDA f (l.drop 4) i (by omega)
  have e:∀j,(l.drop 4).getD j 0=l.getD (4+j) 0:=λj=>by rw[List.getD_eq_getElem?_getD,List.getElem?_drop,List.getD_eq_getElem?_getD]
  rw[e,e,e,e]at b
  show(zBi f (l.drop 4)).getD i 0=_
  rw[b,show 4+4*i=4*(i+1) by omega,show 4+(4*i+1)=4*(i+1)+1 by omega,show 4+(4*i+2)=4*(i+1)+2 by omega,show 4+(4*i+3)=4*(i+1)+3 by omega]
theorem zBG:∀(f:Nat) (l:List Nat),(zBi f l).length=f
 | 0,_=>rfl
 | f+1,_=>cA_ Nat.succ (zBG f _)
theorem zDB {bs:List Nat}(h:bs.length<=64):zz4 bs bs.length=zBi 16 bs:=by
 refine List.ext_getElem? λi=>?_;by_cases hi:i<16;have c:=zCJ bs bs.length h i hi;have f:=zDA 16 bs i hi;have g:=zBy bs bs.length;have l:=zBG 16 bs;have b:∀n j,(if n<bs.length then shN (bs.getD n 0) j else 0)=shN (bs.getD n 0) j:=λn j=>by
  split
  rfl
  rw[List.getD_eq_getElem?_getD,List.getElem?_eq_none (by omega)];show 0=0 % 4294967296*_ % 4294967296
  simp
 unfold wdN at c;rw[b,b,b,b]at c;have d:(zz4 bs bs.length).getD i 0=(zBi 16 bs).getD i 0:=c.trans f.symm;rw[List.getD_eq_getElem?_getD,List.getD_eq_getElem?_getD,List.getElem?_eq_getElem (by omega),List.getElem?_eq_getElem (by omega)]at d;rw[List.getElem?_eq_getElem (by omega),List.getElem?_eq_getElem (by omega)];exact cA_ some d;rw[List.getElem?_eq_none (by rw[zBy];omega),List.getElem?_eq_none (by rw[zBG];omega)]
def zBk (s v:List Nat):Nat->List Nat
 | 0=>s
 | k+1=>(zBk s v k).set k (Nat.xor ((zBk s v k).getD k 0) (Nat.xor (v.getD k 0) (v.getD (k+8) 0)))
theorem zCm {s v:List Nat}(d:zqS s)(b:zqS v):∀k,zcU (zam s) (zam v) k=zam (zBk s v k)/\zqS (zBk s v k)
 | 0=>⟨rfl,d⟩
 | k+1=>by
  obtain⟨f,c⟩:=zCm d b k
  refine⟨?_,c.set _ (zzK (c.getD _) (zzK (b.getD _) (b.getD _)))⟩
  rw[zcU,f,zfL,zfL,zfL,zz2 (b.getD _) (b.getD _),zz2 (c.getD _) (zzK (b.getD _) (b.getD _))]
  exact zAV _ _ _
theorem zCR (b c d f g j l m t:Nat)(z:Bool)(p:t<4294967296):zbg (zam [b,c,d,f,g,j,l,m]) (t:Int) z=zam [b,c,d,f,g,j,l,m,1779033703,3144134277,1013904242,2773480762,(Nat.xor 1359893119 t),2600822924,(bif z then Nat.xor 4294967295 528734635 else 528734635),1541459225]:=by
 have e:zav (zam [b,c,d,f,g,j,l,m]) 8=zam [b,c,d,f,g,j,l,m,1779033703,3144134277,1013904242,2773480762,1359893119,2600822924,528734635,1541459225]:=rfl;have o:(t:Int) % 4294967296=(t:Int):=by omega
 have q:bits .xor .u32 (1359893119:Int) (t:Int)=(Nat.xor 1359893119 t:Nat):=zz2 (x:=1359893119) (by decide) p;have r:bits .xor .u32 IntKind.u32.max (528734635:Int)=(Nat.xor 4294967295 528734635:Nat):=zz2 (x:=4294967295) (y:=528734635) (by decide) (by decide);have a:zf9 (zam [b,c,d,f,g,j,l,m]) (t:Int)=zam [b,c,d,f,g,j,l,m,1779033703,3144134277,1013904242,2773480762,Nat.xor 1359893119 t,2600822924,528734635,1541459225]:=by
  unfold zf9;rw[e,o];show List.set _ 12 (bits .xor .u32 (1359893119:Int) (t:Int))=_;rw[q];rfl
 unfold zbg;rw[a,e];cases z with
 | true=>
  show List.set _ 14 (bits .xor .u32 IntKind.u32.max (528734635:Int))=_;rw[r];rfl
 | false=>rfl
def zCK (l:List Nat)(K:Nat->Nat->Nat->Nat->Nat->Nat->Nat->Nat->Nat->Nat->Nat->Nat->Nat->Nat->Nat->Nat->List Nat):List Nat:=match l with
 | [m0,m1,m2,m3,m4,m5,m6,m7,m8,m9,m10,m11,m12,m13,m14,m15]=>K m0 m1 m2 m3 m4 m5 m6 m7 m8 m9 m10 m11 m12 m13 m14 m15
 | _=>[]
def zD7 (l:List Nat)(K:Nat->Nat->Nat->Nat->Nat->Nat->Nat->Nat->List Nat):List Nat:=match l with
 | [s0,s1,s2,s3,s4,s5,s6,s7]=>K s0 s1 s2 s3 s4 s5 s6 s7
 | _=>[]
theorem zCn (b c o p q r s t u y d f g j l m:Nat)(K:Nat->Nat->Nat->Nat->Nat->Nat->Nat->Nat->Nat->Nat->Nat->Nat->Nat->Nat->Nat->Nat->List Nat):zCK [b,c,o,p,q,r,s,t,u,y,d,f,g,j,l,m] K=K b c o p q r s t u y d f g j l m:=rfl
theorem zD0 (b c d f g j l m:Nat)(K:Nat->Nat->Nat->Nat->Nat->Nat->Nat->Nat->List Nat):zD7 [b,c,d,f,g,j,l,m] K=K b c d f g j l m:=rfl
def zBl (s bs:List Nat)(t:Nat)(z:Bool):List Nat:=
 zD7 s λs0 s1 s2 s3 s4 s5 s6 s7=>zCK (zBi 16 bs) λm0 m1 m2 m3 m4 m5 m6 m7 m8 m9 m10 m11 m12 m13 m14 m15=>zCK (zDk m0 m1 m2 m3 m4 m5 m6 m7 m8 m9 m10 m11 m12 m13 m14 m15 s0 s1 s2 s3 s4 s5 s6 s7 1779033703 3144134277 1013904242 2773480762 (Nat.xor 1359893119 t) 2600822924 (bif z then Nat.xor 4294967295 528734635 else 528734635) 1541459225) λw0 w1 w2 w3 w4 w5 w6 w7 w8 w9 w10 w11 w12 w13 w14 w15=>[Nat.xor s0 (Nat.xor w0 w8),Nat.xor s1 (Nat.xor w1 w9),Nat.xor s2 (Nat.xor w2 w10),Nat.xor s3 (Nat.xor w3 w11),Nat.xor s4 (Nat.xor w4 w12),Nat.xor s5 (Nat.xor w5 w13),Nat.xor s6 (Nat.xor w6 w14),Nat.xor s7 (Nat.xor w7 w15)]
theorem zDC {l:List Nat}(h:l.length=16):∃b c p q r s t u y z d f g j m o,l=[b,c,p,q,r,s,t,u,y,z,d,f,g,j,m,o]:=by
 match l,h with
 | [b,c,p,q,r,s,t,u,y,z,d,f,g,j,m,o],_=>exact⟨b,c,p,q,r,s,t,u,y,z,d,f,g,j,m,o,rfl⟩
theorem zCo {s bs:List Nat}(E:s.length=8)(b:zqS s)(p:bs.length<=64){t:Nat}(g:t<4294967296)(z:Bool):ze0 (zam s) (zam bs) (t:Int) z=zam (zBl s bs t z)/\zqS (zBl s bs t z)/\(zBl s bs t z).length=8:=by
 match s,E,b with
 | [s0,s1,s2,s3,s4,s5,s6,s7],_,b=>
  have q:(zam bs).length=bs.length:=by unfold zam;rw[List.length_map]
  obtain⟨c,w2⟩:=zB0 bs bs.length;rw[zDB p]at c w2;have F:zqS [s0,s1,s2,s3,s4,s5,s6,s7,1779033703,3144134277,1013904242,2773480762,(Nat.xor 1359893119 t),2600822924,(bif z then Nat.xor 4294967295 528734635 else 528734635),1541459225]:=by
   intro x j;have o:Nat.xor 1359893119 t<4294967296:=zzK (by decide) g;simp only[List.mem_cons,List.not_mem_nil,or_false]at j;have u:(bif z then Nat.xor 4294967295 528734635 else 528734635)<4294967296:=by cases z<;>decide
   rcases j with e|e|e|e|e|e|e|e|e|e|e|e|e|e|e|e;rw[e];exact b _ (by simp);rw[e];exact b _ (by simp);rw[e];exact b _ (by simp);rw[e];exact b _ (by simp);rw[e];exact b _ (by simp);rw[e];exact b _ (by simp);rw[e];exact b _ (by simp);rw[e];exact b _ (by simp);rw[e];decide;rw[e];decide;rw[e];decide;rw[e];decide;rw[e];exact o;rw[e];decide;rw[e];exact u;rw[e];decide
  unfold ze0;rw[q,c,zCR s0 s1 s2 s3 s4 s5 s6 s7 t z g];obtain⟨r1,r2⟩:=zBK (zBi 16 bs) F 10;rw[r1];obtain⟨l,f⟩:=zCm b r2 8;rw[l];obtain⟨H,I,T,U,V,X,Y,Z,m8,m9,J,L,M,N,O,R,D⟩:=zDC (zBG 16 bs);have d:zBk [s0,s1,s2,s3,s4,s5,s6,s7] (zAN (zBi 16 bs) [s0,s1,s2,s3,s4,s5,s6,s7,1779033703,3144134277,1013904242,2773480762,(Nat.xor 1359893119 t),2600822924,(bif z then Nat.xor 4294967295 528734635 else 528734635),1541459225] 10) 8=zBl [s0,s1,s2,s3,s4,s5,s6,s7] bs t z:=by
   unfold zBl;rw[D,zCl,zD0,zCn];have B:(zDk H I T U V X Y Z m8 m9 J L M N O R s0 s1 s2 s3 s4 s5 s6 s7 1779033703 3144134277 1013904242 2773480762 (Nat.xor 1359893119 t) 2600822924 (bif z then Nat.xor 4294967295 528734635 else 528734635) 1541459225).length=16:=by
    rw[<-zCl];have A:∀(m v:List Nat) (r:Nat),(zAN m v r).length=v.length:=λm v r=>by
     have C:∀(m v:List Nat) (r k:Nat),(zbz m r v k).length=v.length:=λm v r k=>by
      induction k with
      | zero=>rfl
      | succ k ih=>rw[zbz,zf4,zd6,List.length_set,List.length_set,List.length_set,List.length_set,ih]
     induction r with
     | zero=>rfl
     | succ r ih=>rw[zAN,C,ih]
    exact A _ _ _
   obtain⟨w0,c,w2,w3,w4,w5,w6,w7,w8,w9,aa,ab,ac,ad,ae,af,G⟩:=zDC B;rw[G,zCn]
   rfl
  rw[d]at f|-;refine⟨rfl,f,?_⟩;rw[<-d];have y:∀(s v:List Nat) (k:Nat),(zBk s v k).length=s.length:=λs v k=>by
   induction k with
   | zero=>rfl
   | succ k ih=>rw[zBk,List.length_set,ih]
  exact y _ _ _
def zCa (s:List Nat):Nat->List Nat
 | 0=>[]
 | k+1=>zCa s k++[Nat.mod (s.getD k 0) 256,Nat.mod (Nat.div (s.getD k 0) 256) 256,Nat.mod (Nat.div (s.getD k 0) 65536) 256,Nat.mod (Nat.div (s.getD k 0) 16777216) 256]
theorem zCL (s:List Nat):∀k,zdg (zam s) k=zam (zCa s k)
 | 0=>rfl
 | k+1=>by
  rw[zdg,zCL s k,zfL,zCa]
  unfold zam
  rw[List.map_append]
  rfl
def zBb (bs:List Nat):Nat->List Nat
 | 0=>[1795745351,3144134277,1013904242,2773480762,1359893119,2600822924,528734635,1541459225]
 | k+1=>zBl (zBb bs k) ((bs.drop (64*k)).take 64) (64*k+64) false
def zD1 (bs:List Nat):List Nat:=zCa (zBl (zBb bs (znW bs.length)) (bs.drop (64*znW bs.length)) bs.length true) 8
theorem zB3 (bs:List Nat):∀k,k<=100->zfK (zam bs) k=zam (zBb bs k)/\zqS (zBb bs k)/\(zBb bs k).length=8
 | 0,_=>⟨rfl,λx f=>by
   have:∀y∈zBb [] 0,y<4294967296:=by decide
   exact this x f,rfl⟩
 | k+1,hk=>by
  obtain⟨b,c,d⟩:=zB3 bs k (by omega)
  have e:((zam bs).drop (64*k)).take 64=zam ((bs.drop (64*k)).take 64):=by unfold zam;rw[<-List.map_drop,<-List.map_take]
  rw[zfK,b,e]
  exact zCo d c (by rw[lT9_];omega) (by omega) false
theorem zD2 {bs:List Nat}(h:bs.length<=4000):zhj (zam bs)=zam (zD1 bs):=by
 have f:(zam bs).length=bs.length:=by unfold zam;rw[List.length_map]
 have j:znW bs.length=(bs.length-1) / 64:=rfl;obtain⟨b,c,d⟩:=zB3 bs (znW bs.length) (by omega);have e:(zam bs).drop (64*znW bs.length)=zam (bs.drop (64*znW bs.length)):=by unfold zam;rw[<-List.map_drop]
 unfold zhj zD1;rw[f,b,e];obtain⟨g,_⟩:=zCo d c (bs:=bs.drop (64*znW bs.length)) (by rw[List.length_drop];omega) (t:=bs.length) (by omega) true;rw[g];exact zCL _ _
def hbN (a r:Nat)(P:List (List Nat)):List Nat:=a::Nat.div r 65536::Nat.mod (Nat.div r 256) 256::Nat.mod r 256::0::P.length::P.flatten
def hdN (a r:Nat)(P:List (List Nat)):List Nat:=zD1 (2::Nat.mod (Nat.div (hbN a r P).length 256) 256::Nat.mod (hbN a r P).length 256::hbN a r P)
theorem zCp:∀P:List (List Nat),zat (pz (P.map zam))=zam P.flatten
 | []=>rfl
 | x::P=>by
  show zam x++zat (pz (P.map zam))=zam (x++P.flatten)
  rw[zCp P]
  unfold zam
  rw[List.map_append]
theorem zEo {a r:Nat}{P:List (List Nat)}(h:P.flatten.length<=3000):zaE (a:Int) (r:Int) (pz []) (pz (P.map zam))=zam (hdN a r P):=by
 have d:zaZ (a:Int) (r:Int) (pz []) (pz (P.map zam))=zam (hbN a r P):=by
  have b:zbh (pz [])=[0]:=rfl;have c:zbh (pz (P.map zam))=(P.length:Int)::zam P.flatten:=by
   unfold zbh;rw[zCp];simp[pz]
  unfold zaZ;rw[b,c]
  rfl
 have f:(zam (hbN a r P)).length=(hbN a r P).length:=by unfold zam;rw[List.length_map]
 have g:(hbN a r P).length=6+P.flatten.length:=by unfold hbN;simp;omega
 unfold zaE zhV;rw[d];show zhj ([2]++[((zam (hbN a r P)).length:Int) / 256 % 256,((zam (hbN a r P)).length:Int) % 256]++zam (hbN a r P))=_;rw[f];have e:([2]++[((hbN a r P).length:Int) / 256 % 256,((hbN a r P).length:Int) % 256]++zam (hbN a r P):L_)=zam (2::Nat.mod (Nat.div (hbN a r P).length 256) 256::Nat.mod (hbN a r P).length 256::hbN a r P):=rfl;rw[e,zD2 (by simp;omega)]
 rfl
end Go.Proofs.YtpnpikpmdfipfaaGreatDoor
