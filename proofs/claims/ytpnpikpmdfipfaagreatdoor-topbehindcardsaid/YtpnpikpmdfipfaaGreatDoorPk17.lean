import Derived.Test.YtpnpikpmdfipfaaGreatDoorPk16
import Derived.Shelf.SlSortCmp.WholeK
set_option maxRecDepth 100000
set_option maxHeartbeats 4000000
namespace Go.Proofs.YtpnpikpmdfipfaaGreatDoor
open Go.RowKit Tryz
theorem zbI (n m:Int)(w:World)(b:-9223372036854775808<=n)(c:n<=9223372036854775807)(f:0<m)(g:m<=9223372036854775807) :
  Calls prog 5 #[I_ n,I_ m] w λe w'=>e=.returned (I_ (pk n m))/\w=w':=by
 go_in;go_wp2_with fail
 refine(zaV n m w b c f g).mono ?_;rintro e l⟨d,j⟩;subst d j;dsimp only;go_wp2_with fail
 go_ret;exact⟨rfl,rfl⟩
theorem zaL (k n p:Int)(t:ByteArray)(f:1<=k/\k<=10)(g:0<=n/\n<4)(j:0<=p/\p<=400000)(l:t.size<=4000)(b:hN k=false->n=0)(c:hP k=false->p=0)(d:hT k=false->t.size=0):(⟨k,n,p,t⟩:AV).e=0:=by
 show zeS k n p t.size=0;rw[zeS,iN_ (by omega),iN_ (by omega),iN_ (by omega),iN_ (by omega),iN_];intro h;simp only[zja,Bool.or_eq_true,Bool.and_eq_true,Bool.not_eq_true',dE_]at h;rcases h with(⟨x,y⟩|⟨x,y⟩)|⟨x,y⟩;exact x (b y);exact x (c y);exact x (d y)
theorem n9 {k:Int}{P:Prop}(h:decide (k=9)=false):k=9->P:=λe=>absurd e (of_decide_eq_false h)
def zdU:List AV->Int
 | []=>0
 | a::l=>if a.e=0 then zdU l else a.e
variable {w w':World}{U U':Nat->Bool}{F n:Nat}{fc:X_}{m:FM}
theorem zqy (r:Int)(Z:-1<=r/\r<=3)(l:List AV)(H:Q_)(n I:Nat)(w:World)(M:n=l.length)(T:l.length<=3000)(y:zbq w H l)(z:zcw w) :
  Calls prog 11 #[I_ r,.slice H n I] w λe w'=>e=.returned (I_ (zdU l))/\B_ w w':=by
 subst M;have U:¬(3000:Int)<l.length:=by omega
 by_cases hn1:r=-1;subst hn1
 rotate_left
 have V:(r != -1)=true:=by simp[hn1]
 have A:¬r<0:=by omega
 have X:¬r>=4:=by omega
 have Y:r<4:=by omega
 rotate_left
 all_goals
  go_in;go_wp2_with fail
  go_loopw [23] (λj wr=>∃k:Nat,k<=l.length/\j=I_ k/\Hid (zdU l=zdU (l.drop k))/\B_ w wr) (λj _=>l.length-(intOf j).toNat)
  case atStart=>exact⟨0,nZ_ _,rfl,rfl,bR_ _ _⟩
  case round=>
   obtain⟨k,L,rfl,g,b⟩:=hrel;by_cases hlt:k<l.length
   .have D:(k:Int)<l.length:=by omega
    rcases(y.below b).cells with c|⟨N,O,E,c⟩
    .subst c;simp at hlt
    subst E;obtain⟨m,o,p,q⟩:=c k hlt;have u:l.getD k .z=l[k]:=by simp[List.getD,hlt]
    have d:Hid (zdU l=if(l[k]).e=0 then zdU (l.drop (k+1))else(l[k]).e):=by
     show _=_;rw[g.out,List.drop_eq_getElem_cons hlt,zdU]
    have F:=y.text (l[k]) (gM_ hlt);rw[u]at m o p q;clear c u g;generalize l[k]=x at*;have f:=zj8 x.k x.n x.p x.t ((wr.alloc (.cells #[I_ x.k,I_ x.n,I_ x.p,.string x.t] 26))) F (z.below (b.alloc b.size _) z.lt);have t:zeS x.k x.n x.p x.t.size=x.e:=rfl;rw[t]at f;have B:B_ w (wr.alloc (.cells #[I_ x.k,I_ x.n,I_ x.p,.string x.t] 26)):=b.alloc b.size _;clear t;go_wp2_with fail
    refine f.mono ?_;rintro _ R⟨rfl,A⟩;dsimp only;clear f m o p q;have s:=zm B A;by_cases h0:x.e=0
    .rw[iP_ h0]at d;rw[h0];clear h0;go_wp2_with fail
     go_roundw
     case rel=>exact⟨k+1,by omega,by go_num,d,s⟩
     case measure=>simp[intOf];omega
    .rw[iN_ h0]at d;have J:(x.e != 0)=true:=by simp[h0]
     clear h0;go_wp2_with fail
     go_ret;exact⟨by rw[d.out];rfl,s⟩
   .obtain rfl:k=l.length:=by omega
    have D:¬(l.length:Int)<l.length:=by omega
    have G:Hid (zdU l=0):=by show _=_;rw[g.out,List.drop_length];rfl
    go_wp2_with fail
    go_ret;exact⟨by rw[G.out];rfl,b⟩
def AV.ac (a:AV):Ac:=⟨a.k,a.n,a.p,a.t⟩
theorem zuJ (l:List AV)(h:∀a∈l,a.e=0):zdU l=0:=by
 induction l with
 | nil=>rfl
 | cons a l ih=>rw[zdU,iP_ (h a (List.mem_cons_self ..))];exact ih λb c=>h b (mC_ _ c)
theorem zn3 {a:AV}(h:a.e=0):(1<=a.k/\a.k<=10)/\(0<=a.n/\a.n<4)/\(0<=a.p/\a.p<=400000)/\a.t.size<=4000:=by
 unfold AV.e zeS at h
 split at h
 omega
 split at h
 omega
 split at h
 omega
 split at h
 omega;omega
theorem zxH (f:Fl)(i:Int):(f.sync i).no.sg.length<=f.no.sg.length+(f.node i).wai.length:=zra _ _
theorem zmI (f:Fl)(i:Int)(m:MC):(f.come i m).no=f.no:=by unfold Fl.come;split<;>rfl
theorem zwn (l:List MC)(f:Fl):(l.foldl (λg m=>g.come m.tt m) f).no=f.no:=by
 induction l generalizing f with
 | nil=>rfl
 | cons m l ih=>exact(ih _).trans (zmI _ _ _)
theorem zyM (f:Fl)(k i p:Int)(t:ByteArray):(f.act k i p t).no.sg.length<=f.no.sg.length+(f.node i).wai.length:=by
 unfold Fl.act
 split
 .unfold Fl.pick
  repeat' split
  all_goals first|(rw[zmI];exact Nat.le_add_right _ _)|exact Nat.le_add_right _ _
 split
 unfold Fl.flow;rw[zwn];exact Nat.le_add_right _ _
 split
 .unfold Fl.submit
  repeat' split
  all_goals exact Nat.le_add_right _ _
 split
 .unfold Fl.forge
  repeat' split
  all_goals first|(rw[zmI];exact Nat.le_add_right _ _)|exact Nat.le_add_right _ _
 split
 unfold Fl.start
 split<;>exact Nat.le_add_right _ _
 split
 split
 split
 exact Nat.le_add_right _ _
 split
 exact zxH f i;exact Nat.le_add_right _ _;exact Nat.le_add_right _ _;exact Nat.le_add_right _ _
theorem zgj (l:List Sg):(zA l).length=l.length:=by simp[zA]
theorem FTo.low (h:FTo U U' w w')(c:∀b,b<n->U b=false)(f:n<=w.heap.size):Below n w w':=
 ⟨h.os,h.tape,h.output,h.size,λb d=>h.block b (by omega) (c b d)⟩
theorem zwo (f:Fl)(l:List AV)(k:Nat)(b:k<l.length):f.run ((l.take (k+1)).map AV.ac)=(f.run ((l.take k).map AV.ac)).act (l[k]).k (l[k]).n (l[k]).p (l[k]).t:=by
 rw[tS_ b,List.map_append,Fl.run_append]
 rfl
theorem zjc (h:zJ w U F fc m)(i:Nat)(b:i<4):zbV (m.v.view i).cs=0:=by
 unfold Fl.view
 split
 rfl
 rw[m.node_v i b];exact(h.nd i b).inv.dag
theorem zzp {o:Om}(b:o.v=m.v.told)(h:zJ w U F fc m):zwk o:=by
 intro v c;simp only[List.mem_cons,List.not_mem_nil,or_false]at c;rcases c with e|e|e|e<;>subst e;have:=cA_ (λx:Ou=>x.v0.cs) b;exact(cA_ zbV this).trans (zjc h 0 (by decide));have:=cA_ (λx:Ou=>x.v1.cs) b;exact(cA_ zbV this).trans (zjc h 1 (by decide));have:=cA_ (λx:Ou=>x.v2.cs) b;exact(cA_ zbV this).trans (zjc h 2 (by decide));have:=cA_ (λx:Ou=>x.v3.cs) b;exact(cA_ zbV this).trans (zjc h 3 (by decide))
structure zlk (v:Vw):Prop where
 dag:zbV v.cs=0
 du8:∀c∈v.cs,∀b∈c.bl++c.pl,∀x∈b,0<=x/\x<=255
 sh:v.bs.length<=800
 shf:∀b∈v.bs,b.f=0
 tab:v.vt.length<=400000
 u8t:∀s∈v.vt,zaN s.2.2
 txs:∃nx,zaO nx v.tx=0
theorem zkt (h:zJ w U F fc m)(i:Nat)(d:i<4):zlk (m.v.view i):=by
 unfold Fl.view
 split
 exact⟨rfl,(λc b=>by cases b),nZ_ _,(λc b=>by cases b),nZ_ _,(λc b=>by cases b),1,rfl⟩;rw[m.node_v i d];have k:=(h.nd i d).inv;exact⟨k.dag,k.du8,k.sh,k.shf,k.tab,k.u8t,_,k.pool⟩
structure zjd (o:Om):Prop where
 v0:zlk o.y0.v
 v1:zlk o.y1.v
 v2:zlk o.y2.v
 v3:zlk o.y3.v
 gs:o.gs.length<=1200000
 aw:o.aw<=400
 cs:o.cs.length<=3000
theorem zxI {o:Om}(b:o.v=m.v.told)(h:zJ w U F fc m)(r:m.gs.length<=1200000)(q:m.cs.length<=3000):zjd o:=by
 have c:=cA_ (λx:Ou=>x.v0) b;have d:=cA_ (λx:Ou=>x.v1) b;have f:=cA_ (λx:Ou=>x.v2) b;have g:=cA_ (λx:Ou=>x.v3) b;have j:=cA_ (λx:Ou=>x.sg.length) b;have l:=cA_ (λx:Ou=>x.aw) b;have p:=cA_ (λx:Ou=>x.cs.length) b;have c:o.y0.v=m.v.view ((0:Nat):Int):=c;have d:o.y1.v=m.v.view ((1:Nat):Int):=d;have f:o.y2.v=m.v.view ((2:Nat):Int):=f;have g:o.y3.v=m.v.view ((3:Nat):Int):=g;have j:(zA o.gs).length=(zA m.gs).length:=j;have l:o.aw=(m.aw.map MV.c).length:=l;have p:o.cs.length=m.cs.length:=p;rw[zgj,zgj]at j;rw[List.length_map]at l;have:=h.law;refine⟨by rw[c];exact zkt h 0 (by decide),by rw[d];exact zkt h 1 (by decide),by rw[f];exact zkt h 2 (by decide),by rw[g];exact zkt h 3 (by decide),by omega,by omega,by omega⟩
theorem zxJ (av:zhO)(r:Int)(hr:-1<=r/\r<=3)(l:List AV)(sa:Q_)(n ae:Nat)(w:World)(hn:n=l.length)(h3:l.length<=3000)(hA:zbq w sa l)(Y:∀a∈l,a.e=0)(Z:zcw w)(hT:za2 w) :
  Calls prog 10 #[I_ r,.slice sa n ae] w λe w'=>∃o:Om,e=.returned (.tuple #[.agg o.cells.toArray,I_ 0])/\zex w' o/\o.v=((Fl.z r).run (l.map AV.ac)).told/\zjd o/\B_ w w':=by
 subst hn;have u:=zC w (.cells #[O_,O_,I_ 0,O_] 31);have q0:=hN_ w (.cells #[O_,O_,I_ 0,O_] 31);have C:=zqy r hr l sa _ ae _ rfl h3 (hA.below u) (Z.below u Z.lt);rw[zuJ l Y]at C;go_in;go_wp2_with fail
 generalize w.alloc (.cells #[O_,O_,I_ 0,O_] 31)=W0 at u q0 C|-;refine C.mono ?_;rintro _ w1⟨rfl,aa⟩;dsimp only;clear C;have X:=zm u aa;have q1:=zk aa q0;have HB:=zst r hr w1 (hT.below X);go_wp2_with fail
 refine HB.mono ?_;rintro e w2⟨F,U,fc,m,d,hF,I,ai,_,ab⟩;subst d;dsimp only;clear HB;have ag:=zm X ab;have q2:=zk ab q1;have ap:Hid (m.v=(Fl.z r).run ((l.take 0).map AV.ac)):=by show _=_;rw[I];rfl
 have am:Hid (m.gs.length<=400*0/\m.cs.length<=0):=by
  show _/\_;have e1:m.gs.length=0:=(zgj m.gs).symm.trans (cA_ (λf=>f.no.sg.length) I);have s:m.cs.length=0:=cA_ (λf=>f.codes.length) I;omega
 have HE:Hid (∀a∈l,a.e=0):=Y;have ad:Hid (∀b,b<w1.heap.size->U b=false):=ai;have aw:=ze q1;clear I ai Y q0 q1 u aa Z hT;go_wp2_with fail
 go_loopw [21] (λj wr=>∃(k:Nat) (q:Nat->Bool) (A:X_) (c:FM),k<=l.length/\j=I_ k/\zJ wr q F A c/\FTo U q w2 wr/\Hid (c.v=(Fl.z r).run ((l.take k).map AV.ac))/\Hid (c.gs.length<=400*k/\c.cs.length<=k)) (λj _=>l.length-(intOf j).toNat)
 case atStart=>exact⟨0,U,fc,m,nZ_ _,rfl,hF,FTo.refl _ _,ap,am⟩
 case round=>
  obtain⟨k,q,A,c,hk,rfl,t,n1,ac,y⟩:=hrel;have E:=ag.trans (n1.low (n:=w.heap.size) (λb hb=>ad.out b (by have:=X.size;omega)) ag.size);by_cases hlt:k<l.length
  .have ax:(k:Int)<l.length:=by omega
   rcases(hA.below E).cells with G|⟨sb,so,az,G⟩;subst G;simp at hlt;subst az;obtain⟨c0,c1,c2,c3⟩:=G k hlt;have ah:l.getD k .z=l[k]:=by simp[List.getD,hlt]
   have M:Hid _:=zwo (Fl.z r) l k hlt;rw[<-ac.out]at M;have ay:=zn3 (HE.out (l[k]) (gM_ hlt));rw[ah]at c0 c1 c2 c3;clear G ah ac;generalize l[k]=x at*;obtain⟨aj,aA,aB,ak⟩:=ay;refine kO_ ?A0 ?_;exact Obj.cells #[I_ x.k,I_ x.n,I_ x.p,.string x.t] 26;have V:=zC wr ?A0;have g:=hN_ wr ?A0;go_upto_region 8 with fail
   generalize wr.alloc ?A0=W3 at V g|-;have af:=t.below V;generalize wr.heap.size=B at g|-;have N:=zb g 0 (I_ x.k) rfl;have O:=zb g 1 (I_ x.n) rfl;have R:=zb g 2 (I_ x.p) rfl;have T:=zb g 3 (.string x.t) rfl;obtain⟨i,hi⟩:∃i:Nat,x.n=i:=⟨x.n.toNat,by omega⟩;obtain⟨p,hp⟩:∃p:Nat,x.p=p:=⟨x.p.toNat,by omega⟩;have L:=zxB av c x.k aj i (by omega) p (by omega) x.t ak W3 q F A af (by have:=y.out.1;omega) (by have:=y.out.2;omega);rw[<-hi,<-hp]at L;have HW:Hid ((c.v.node x.n).wai.length<=400):=by
    show _<=_;rw[hi,c.node_v i (by omega)];exact(t.nd i (by omega)).inv.wai
   clear c0 c1 c2 c3 g aj aA aB ak hi hp af;go_wp2_with fail
   refine L.mono ?_;rintro e w4⟨⟨v,d⟩,U4,fc4,m4,h4,n4,v4⟩;subst d;dsimp only;clear L N O R T;have aC:=(n1.trans (FTo.below q V)).trans n4;have aq:Hid (m4.v=(Fl.z r).run ((l.take (k+1)).map AV.ac)):=by show _=_;rw[M.out];exact v4
   have an:Hid (m4.gs.length<=400*(k+1)/\m4.cs.length<=k+1):=by
    show _/\_;have e1:=zyM c.v x.k x.n x.p x.t;have s:=zrO c.v ⟨x.k,x.n,x.p,x.t⟩;have e3:=HW.out;have e4:=y.out;unfold Fl.does at s;dsimp only at s;rw[<-v4]at e1 s;have e5:m4.v.no.sg.length=m4.gs.length:=zgj _;have e6:c.v.no.sg.length=c.gs.length:=zgj _;have e7:m4.v.codes=m4.cs:=rfl;have e8:c.v.codes=c.cs:=rfl;rw[e7,e8]at s
    split at s<;>omega
   clear v4 M HW;go_wp2_with fail
   go_roundw
   case rel=>exact⟨k+1,U4,fc4,m4,by omega,by go_num,h4,aC,aq,an⟩
   case measure=>simp[intOf];omega
  obtain rfl:k=l.length:=by omega
  have ax:¬(l.length:Int)<l.length:=by omega
  have qr:=((n1.low (n:=w1.heap.size) ad.out ab.size).block _ aw).trans q2;have HO:=zwi c wr q F A t;go_wp2_with fail
  refine HO.mono ?_;rintro e w5⟨o,d,ho,H,D⟩;refine kA_ ?B0 ?_;exact(#[.slice o.na 4 o.nc,.slice o.ga o.gs.length o.gc,I_ o.aw,.slice o.ca o.cs.length o.cc]:X_);have d:e=.returned (.agg ?B0):=d;subst d;dsimp only;clear HO;have J:=zk D qr;have al:Hid (zex (w5.setRow w.heap.size ?B0) o):=zex.put ho (zzp H t) J;have au:=(Upd.setRow (cs:=?B0) J).below (E.trans (D.mono E.size)) (nT_ E.size D.size) (nR_ _);have z:=sH_ w5 w.heap.size _ ?B0 _ _ J;have N:=zb z 0 _ rfl;have O:=zb z 1 _ rfl;have R:=zb z 2 _ rfl;have T:=zb z 3 _ rfl;have ar:Hid (o.v=((Fl.z r).run (l.map AV.ac)).told):=by
   show _=_;rw[H,ac.out,List.take_length]
  have ao:Hid (zjd o):=zxI H t (by have:=y.out.1;omega) (by have:=y.out.2;omega);clear ho H D z;go_wp2_with (refine wS_ rfl 31 _ _ rfl w.heap.size ?B0 rfl rfl 31 _ J zli rfl (by simp[Value.oneCell']) ?_)
  exact bP_ (v:=.tuple #[.agg ?B0,I_ 0]) (by simp[results,results10,go_sem,N,O,R,T]) rfl ⟨o,rfl,al.out,ar.out,ao.out,au⟩
def cI (x y:Int):Int:=if x<y then -1 else if y<x then 1 else 0
structure Lin {α:Type}(c:α->α->Int):Prop where
 refl:∀x,c x x=0
 eq:∀x y,c x y=0->x=y
 neg:∀x y,c x y<0->0<c y x
 pos:∀x y,0<c x y->c y x<0
 trans:∀x y z,c x y<0->c y z<0->c x z<0
theorem zwN {x y:Int}(h:x<y):cI x y=-1:=by simp[cI,h]
theorem zwO {x y:Int}(h:y<x):cI x y=1:=by
 have b:¬x<y:=by omega
 simp[cI,h,b]
theorem zsB (x:Int):cI x x=0:=by simp[cI]
theorem zgn (x y:Int):(x<y/\cI x y=-1)\/(y<x/\cI x y=1)\/(x=y/\cI x y=0):=by
 rcases Int.lt_trichotomy x y with h|h|h;exact .inl ⟨h,zwN h⟩;subst h;exact .inr (.inr ⟨rfl,zsB _⟩);exact .inr (.inl ⟨h,zwO h⟩)
theorem zuK:Lin cI:=by
 refine⟨λx=>zsB x,λx y h=>?_,λx y h=>?_,λx y h=>?_,λx y z b c=>?_⟩;rcases zgn x y with g|g|g<;>omega;rcases zgn x y with g|g|g<;>rcases zgn y x with k|k|k<;>omega;rcases zgn x y with g|g|g<;>rcases zgn y x with k|k|k<;>omega;rcases zgn x y with g|g|g<;>rcases zgn y z with k|k|k<;>rcases zgn x z with l|l|l<;>omega
def zj9 {α β:Type}(c:α->α->Int)(d:β->β->Int)(x y:α×β):Int:=if c x.1 y.1≠0 then c x.1 y.1 else d x.2 y.2
theorem zxK {α β:Type}{c:α->α->Int}{d:β->β->Int}(b:Lin c)(l:Lin d):Lin (zj9 c d):=by
 refine⟨λx=>?_,λx y h=>?_,λx y h=>?_,λx y h=>?_,λx y z j f=>?_⟩;simp[zj9,b.refl,l.refl];unfold zj9 at h
 split at h
 contradiction
 rename_i g
 have g:c x.1 y.1=0:=by simpa using g
 exact Prod.ext (b.eq _ _ g) (l.eq _ _ h);unfold zj9 at h|-
 split at h
 have:=b.neg _ _ h;rw[iP_ (by omega)];exact this
 rename_i g
 have g:c x.1 y.1=0:=by simpa using g
 have e:=b.eq _ _ g;rw[e,iN_ (by simp[b.refl])];exact l.neg _ _ h;unfold zj9 at h|-
 split at h
 have:=b.pos _ _ h;rw[iP_ (by omega)];exact this
 rename_i g
 have g:c x.1 y.1=0:=by simpa using g
 have e:=b.eq _ _ g;rw[e,iN_ (by simp[b.refl])];exact l.pos _ _ h;unfold zj9 at j f|-;by_cases g1:c x.1 y.1=0;have e:=b.eq _ _ g1;rw[iN_ (by simpa using g1)]at j;rw[e];by_cases g2:c y.1 z.1=0;rw[iN_ (by simpa using g2)]at f|-;exact l.trans _ _ _ j f;rw[iP_ g2]at f|-;exact f;rw[iP_ g1]at j;by_cases g2:c y.1 z.1=0;have e:=b.eq _ _ g2;rw[<-e,iP_ g1];exact j;rw[iP_ g2]at f;have:=b.trans _ _ _ j f;rw[iP_ (by omega)];exact this
theorem Lin.swo {α β:Type}{c:α->α->Int}(h:Lin c)(k:β->α):Go.Sort.SWO (Go.Proofs.ltOf λx y:β=>c (k x) (k y)):=by
 refine⟨λx=>?_,λx y z d f=>?_,λx y z d f=>?_⟩;simp[Go.Proofs.ltOf,h.refl];simp only[Go.Proofs.ltOf,dE_]at*;exact h.trans _ _ _ d f;simp only[Go.Proofs.ltOf,decide_eq_false_iff_not]at*;intro j;rcases Int.lt_trichotomy (c (k x) (k y)) 0 with g|g|g;exact d g;rw[h.eq _ _ g]at j;exact f j;rcases Int.lt_trichotomy (c (k y) (k z)) 0 with g2|g2|g2;exact f g2;rw[<-h.eq _ _ g2]at j;exact d j;have a:=h.trans _ _ _ (h.pos _ _ g2) (h.pos _ _ g);have b:=h.neg _ _ a;omega
def orF:L_->Int
 | []=>0
 | x::r=>if x≠0 then x else orF r
def zeh (x y:Int×Int):Int:=zj9 cI cI x y
theorem zuL:Lin zeh:=zxK zuK zuK
theorem zpo (a b c d:Int):zeh (a,b) (c,d)=orF [cI a c,cI b d]:=by
 simp only[zeh,zj9,orF];by_cases h0:cI a c=0;by_cases h1:cI b d=0<;>simp[h0,h1];simp[h0]
theorem zka (x:Int)(w:World):Calls prog 189 #[I_ x] w λe w'=>e=.returned (.bool false)/\w=w':=by
 go_in
 go_wp2
 go_ret;exact⟨by simp,rfl⟩
theorem ziu (x y:Int)(w:World):Calls prog 155 #[I_ x,I_ y] w λe w'=>e=.returned (I_ (cI x y))/\w=w':=by
 rcases Int.lt_trichotomy x y with h|h|h;have b:Hid (cI x y=-1):=zwN h
 rotate_left
 subst h;have b:Hid (cI x x=0):=zsB x
 rotate_left
 have b:Hid (cI x y=1):=zwO h;have c:¬x<y:=by omega
 rotate_left
 all_goals
  go_in;go_wp2_with (go_at_call 189;refine(zka _ _).mono ?_;rintro e w'⟨rfl,rfl⟩)
  go_ret;exact⟨zt b.out.symm,rfl⟩
def Gr (w w':World):Prop:=∃q os,w'=Go.Sort.grow (w.drewN q) os
theorem Gr.refl (w:World):Gr w w:=⟨0,#[],by simp[Go.Sort.grow,World.drewN]⟩
theorem Gr.trans {a b c:World}(h:Gr a b)(k:Gr b c):Gr a c:=by
 obtain⟨q,os,rfl⟩:=h;obtain⟨f,d,rfl⟩:=k;exact⟨q+f,os++d,by simp[Go.Sort.grow,World.drewN,Array.append_assoc,Nat.add_assoc]⟩
theorem Gr.alloc {a b:World}(h:Gr a b)(o:Obj):Gr a (b.alloc o):=h.trans ⟨0,#[o],by rw[Go.Sort.alloc_eq_grow];rfl⟩
theorem Gr.drew {a b:World}(h:Gr a b):Gr a b.drew:=h.trans ⟨1,#[],by unfold Go.Sort.grow;rw[Array.append_empty];rfl⟩
theorem zuM (l:L_)(g o q:Nat)(w:World)(s:l.length<=1000)(h:∀j (h:j<l.length),C_ w g (o+j) (I_ (l[j]))) :
  Calls prog 154 #[.slice (some (p_ g o)) l.length q] w λe w'=>e=.returned (I_ (orF l))/\w=w':=by
 have p:Hid (∀j (h:j<l.length),C_ w g (o+j) (I_ (l[j]))):=h;clear h;go_in;go_wp2_with fail
 go_loop [8] (λi=>∃m:Nat,m<=l.length/\i=I_ m/\orF l=orF (l.drop m)) (λi=>l.length-(intOf i).toNat)
 case atStart=>exact⟨0,nZ_ _,rfl,rfl⟩
 case round=>
  obtain⟨m,u,rfl,f⟩:=hrel;by_cases hlt:m<l.length
  .have r:=p.out m hlt;have d:Hid (l.drop m=l[m]::l.drop (m+1)):=List.drop_eq_getElem_cons hlt;have c:Hid (orF l=orF (l.drop m)):=f;clear f;have t:(m:Int)<l.length:=by omega
   generalize l[m]=x at*;by_cases hx:x=0
   .have b:Hid (orF l=orF (l.drop (m+1))):=by show _=_;rw[c.out,d.out,orF,iN_ (by simp[hx])]
    clear c d;go_wp2_with fail
    go_round
    case rel=>exact⟨m+1,by omega,by go_num,b.out⟩
    case measure=>simp[intOf];omega
   have b:Hid (orF l=x):=by show _=_;rw[c.out,d.out,orF,iP_ hx]
   clear c d;go_wp2_with fail
   go_ret;exact⟨zt b.out.symm,rfl⟩
  obtain rfl:m=l.length:=by omega
  have b:Hid (orF l=0):=by show _=_;rw[f,List.drop_length];rfl
  clear f;go_wp2_with fail
  go_ret;exact⟨zt b.out.symm,rfl⟩
theorem zqz (au rd b c:Int)(B:Q_)(n2 E:Nat)(C:Q_)(I F:Nat)(D:Q_)(J G:Nat)(p:Q_)(f t:Nat)(q:Q_)(z u:Nat)(s:Q_)(A y:Nat)(w:World) :
  Calls prog 153 #[.agg #[I_ au,I_ rd,.slice B n2 E,.slice C I F,.slice D J G],.agg #[I_ b,I_ c,.slice p f t,.slice q z u,.slice s A y]] w λe w'=>e=.returned (I_ (zeh (rd,au) (c,b)))/\Gr w w':=by
 refine kO_ ?A0 ?_;exact Obj.cells #[I_ au,I_ rd,.slice B n2 E,.slice C I F,.slice D J G] 88;refine kA_ ?B0 ?_;exact #[I_ b,I_ c,.slice p f t,.slice q z u,.slice s A y];have hG:Gr w ((w.alloc ?A0).alloc (.cells ?B0 88)):=((Gr.refl w).alloc _).alloc _;have L:=hX_ w ?A0 (.cells ?B0 88);have M:((w.alloc ?A0).alloc (.cells ?B0 88)).heap[w.heap.size+1]? = some (.cells ?B0 88 (0,0)):=by
  have:=hN_ (w.alloc ?A0) (.cells ?B0 88);rw[zG]at this;exact this
 have HC:Hid (zeh (rd,au) (c,b)=orF [cI rd c,cI au b]):=zpo rd au c b;go_in;go_wp2_with fail
 generalize (w.alloc ?A0).alloc (.cells ?B0 88)=d at hG L M|-;have R:=zb L 0 _ rfl;have T:=zb L 1 _ rfl;have U:=zb M 0 _ rfl;have V:=zb M 1 _ rfl;have H0:=ziu rd c d.drew;have H1:=ziu au b d.drew;generalize cI rd c=l at*;generalize cI au b=m at*;refine wR_ (S:=(λw'=>C_ w' w.heap.size 0 (I_ au)/\C_ w' w.heap.size 1 (I_ rd)/\C_ w' (w.heap.size+1) 0 (I_ b)/\C_ w' (w.heap.size+1) 1 (I_ c))) (by kernel_rfl) ⟨R,T,U,V⟩ (λH=>?_);refine tks_ 12 [(0,5,(P_ w.heap.size 0)),(1,6,(P_ w.heap.size 1)),(2,7,I_ rd),(3,8,(P_ (w.heap.size+1) 0)),(4,9,(P_ (w.heap.size+1) 1)),(5,10,I_ c),(7,12,(P_ w.heap.size 0)),(8,13,(P_ w.heap.size 0)),(9,14,I_ au),(10,15,(P_ (w.heap.size+1) 0)),(11,16,(P_ (w.heap.size+1) 0)),(12,17,I_ b)] H ?_;simp only[tkf_,zf];refine zE 6 rfl (λK g=>?_);refine zj rfl 11 rfl 155 [.tmp 7,.tmp 10] #[3,3] rfl [I_ rd,I_ c] rfl (eO_ func155) (λv w'=>v=I_ l/\d.drew=w') (H0.mono (λe w2 h=>⟨_,h.1,rfl,h.2⟩)) ?_;rintro v w2⟨rfl,rfl⟩;refine g.out _ _ ⟨R,T,U,V⟩ (λH=>?_);simp only[zf];refine zE 13 rfl (λK g=>?_);refine zj rfl 18 rfl 155 [.tmp 14,.tmp 17] #[3,3] rfl [I_ au,I_ b] rfl (eO_ func155) (λv w'=>v=I_ m/\d.drew=w') (H1.mono (λe w2 h=>⟨_,h.1,rfl,h.2⟩)) ?_;rintro v w2⟨rfl,rfl⟩;refine g.out _ _ ⟨R,T,U,V⟩ (λH=>?_);simp only[zf];refine zE 14 rfl (λK g=>?_);refine kO_ ?C0 ?_;exact Obj.cells #[I_ l,I_ m] 3;refine zy rfl 19 rfl (.slice (some (p_ d.heap.size 0)) 2 2) (d.drew.alloc ?C0) (by go_simp) ?_;have X:=zR (o:=.cells #[I_ l,I_ m] 3) (w:=d.drew) L;have Y:=zR (o:=.cells #[I_ l,I_ m] 3) (w:=d.drew) M;have f:=hN_ d.drew ?C0;have aa:=(hG.drew).alloc ?C0;have N:=zuM [l,m] d.heap.size 0 2 (d.drew.alloc ?C0) (by simp) (by
  intro j O;have O:j<2:=O
  match j,O with
  | 0,_=>exact zb f 0 _ rfl
  | 1,_=>exact zb f 1 _ rfl)
 generalize d.drew.alloc ?C0=W1 at X Y f aa N|-;have Z:=zb X 0 _ rfl;have n1:=zb X 1 _ rfl;have o0:=zb Y 0 _ rfl;have o1:=zb Y 1 _ rfl;rw[<-HC.out]at N;refine g.out _ _ ⟨Z,n1,o0,o1⟩ (λH=>?_);simp only[zf];refine zE 15 rfl (λK g=>?_);refine zj rfl 20 rfl 154 [.tmp 19] #[64] rfl [.slice (some (p_ d.heap.size 0)) 2 2] rfl (eO_ func154) (λv w'=>v=I_ (zeh (rd,au) (c,b))/\W1=w') (N.mono (λe w2 h=>⟨_,h.1,rfl,h.2⟩)) ?_;rintro v w2⟨rfl,rfl⟩;refine g.out _ _ ⟨Z,n1,o0,o1⟩ (λH=>?_);simp only[zf];generalize hr:zeh (rd,au) (c,b)=r;have HR:Hid (zeh (rd,au) (c,b)=r):=hr;clear hr;refine zE 16 rfl (λK g=>?_);refine zy rfl 4 rfl (I_ r) W1 (by go_simp) ?_;refine g.out _ _ ⟨Z,n1,o0,o1⟩ (λH=>?_);simp only[zf];refine wD_ (by kernel_rfl) ?_ _;go_wp2_with fail
 go_ret;exact⟨zt HR.out.symm,aa⟩
theorem zkV (c:Ct)(rd:Int)(g:Nat)(w:World)(l:C_ w g 0 (I_ rd)) :
  Calls prog 149 #[.agg (crow_ c),(P_ g 0)] w λe w'=>e=.returned (.bool (decide (c.v.rd<rd)))/\Go.RowKit.Below w.heap.size w w':=by
 have b:Go.RowKit.Below w.heap.size w (w.alloc (.cells (crow_ c) 88)):=(Go.RowKit.Below.refl _ _).alloc (nR_ _) _;have d:=hN_ w (.cells (crow_ c) 88);have f:Hid (decide (c.v.rd<rd)=decide (c.rd<rd)):=rfl;go_in;go_upto_region 1 with fail
 generalize w.alloc (.cells (crow_ c) 88)=o at b d|-;generalize j:w.heap.size=B at d|-;have m:Hid _:=j;have q:=zb d 1 _ rfl;have p:=zr b l;clear j l;by_cases e:c.rd<rd
 .go_wp2_with fail
  go_ret;exact⟨by rw[f.out,dT_ e];rfl,b⟩
 go_wp2_with fail
 go_ret;exact⟨by rw[f.out,dF_ (by omega)];rfl,b⟩
def zdv (l:List Ct)(rd:Int)(m:Nat):Bool:=match l[m]? with
 | some c=>decide (c.v.rd<rd)
 | none=>false
theorem zku (l:List Ct)(rd:Int)(m:Nat)(h:m<l.length):zdv l rd m=decide ((l[m]).v.rd<rd):=by simp[zdv,h]
theorem zjt (b:List Ct)(q:Q_)(n r:Nat)(rd:Int)(g:Nat)(w:World)(c:n=b.length)(G:n<=400)(A:zba w q b)(y:C_ w g 0 (I_ rd)) :
  Calls prog 130 #[.slice q n r,.func (.func 149) #[] #[P_ g 0]] w λe w'=>e=.returned (I_ (zaC (zdv b rd) b.length))/\B_ w w':=by
 subst c;go_in;go_wp2_with fail
 go_loopw [8] (λi wr=>∃m:Nat,m<=b.length/\i=I_ m/\Hid (zaC (zdv b rd) m=-1)/\B_ w wr) (λi _=>b.length-(intOf i).toNat)
 case atStart=>exact⟨0,nZ_ _,rfl,rfl,bR_ _ _⟩
 case round=>
  obtain⟨m,I,rfl,f,d⟩:=hrel;by_cases hlt:m<b.length
  .obtain⟨J,L,rfl,B,C,D,E,F⟩:=(A.below d).at m hlt;have z:=zr d y;have H:(m:Int)<b.length:=by omega
   have o:=zku b rd m hlt;have j:Hid (decide ((b[m]).v.rd<rd)=true->zaC (zdv b rd) b.length=m):=by
    show _->_;intro h;exact zgc _ m _ f.out (by rw[o];exact h) hlt
   have l:Hid (decide ((b[m]).v.rd<rd)=false->zaC (zdv b rd) (m+1)=-1):=by
    show _->_;intro h;exact zgv _ m f.out (by rw[o];exact h)
   clear f o;generalize b[m]=s at*;go_wp2_with fail
   refine(zkV s rd g wr z).mono ?_;rintro _ M⟨rfl,t⟩;dsimp only;have p:=zm d t;generalize decide (s.v.rd<rd)=x at*;cases x
   .have c:Hid _:=l.out rfl;clear j l;go_wp2_with fail
    go_roundw
    case rel=>exact⟨m+1,by omega,by go_num,c,p⟩
    case measure=>simp[intOf];omega
   have c:Hid _:=j.out rfl;clear j l;go_wp2_with fail
   go_ret;exact⟨zt c.out.symm,p⟩
  obtain rfl:m=b.length:=by omega
  go_wp2_with fail
  go_ret;exact⟨zt f.out.symm,d⟩
variable {T:TypeId}{B cap k:Nat}{rd:Int}{ls:List Ct}{xs:List Value}{cur:X_}
def kpt (rd:Int)(c:Ct):Bool:=!decide (c.v.rd<rd)
structure zez (cur:X_)(cap:Nat)(ls:List Ct)(rd:Int)(j:Nat):Prop where
 siz:cur.size=cap*5
 le:ls.length<=cap
 low:∀k (h:k<((ls.take j).filter (kpt rd)).length) t,t<5->cur[k*5+t]? = (((ls.take j).filter (kpt rd))[k]).cs[t]?
 high:∀k (h:k<ls.length) t,j<=k->t<5->cur[k*5+t]? = (ls[k]).cs[t]?
 lt:((ls.take j).filter (kpt rd)).length<j
theorem zxL (b:List Ct)(rd:Int)(j:Nat):((b.take j).filter (kpt rd)).length<=b.length:=nT_ (List.length_filter_le _ _) (by rw[lT9_];omega)
theorem zmJ (b:List Ct)(rd:Int)(j:Nat)(c:j<b.length)(h:kpt rd (b[j])=false):(b.take (j+1)).filter (kpt rd)=(b.take j).filter (kpt rd):=by
 rw[tS_ c,List.filter_append];simp[h]
theorem zpp (b:List Ct)(rd:Int)(j:Nat)(c:j<b.length)(h:kpt rd (b[j])=true):(b.take (j+1)).filter (kpt rd)=(b.take j).filter (kpt rd)++[b[j]]:=by
 rw[tS_ c,List.filter_append];simp[h]
theorem zez.no {j:Nat}(h:zez cur cap ls rd j)(d:j<ls.length)(c:kpt rd (ls[j])=false):zez cur cap ls rd (j+1):=by
 have e:=zmJ ls rd j d c;refine⟨h.siz,h.le,?_,λk c t a b=>h.high k c t (by omega) b,by rw[e];have:=h.lt;omega⟩;rw[e];exact h.low
theorem zez.yes {j i:Nat}(h:zez cur cap ls rd j)(g:j<ls.length)(c:kpt rd (ls[j])=true)(m:i=((ls.take j).filter (kpt rd)).length):zez (zd4 cur (i*5) (ls[j]).cs) cap ls rd (j+1):=by
 have e:=zpp ls rd j g c;have d:(ls[j]).cs.length=5:=rfl;have q:=h.lt;have p:=h.le;have l:=h.siz;refine⟨by rw[zcW];exact h.siz,h.le,?_,λk c t a b=>?_,by rw[e];simp;omega⟩;rw[e];intro k c t f;rw[lP_]at c;by_cases ek:k=i;subst ek;rw[zg8 _ _ _ _ (by rw[d];exact f) (by rw[d,l];omega),List.getElem_append_right (by omega)]
 simp
 have o:k<i:=by simp at c;omega
 rw[zdP _ _ _ _ (.inl (by omega)),List.getElem_append_left (by omega)];exact h.low k (by omega) t f;rw[zdP _ _ _ _ (.inr (by rw[d];omega))];exact h.high k c t (by omega) b
theorem zez.end {i:Nat}{g:List Value}(h:zez cur cap ls rd ls.length)(f:i=(ls.filter (kpt rd)).length):(zd4 cur (i*5) g).toList.take (i*5)=ctv (ls.filter (kpt rd)):=by
 have c:=h.low;have l:=h.siz;have j:=h.le;have d:=zxL ls rd ls.length;rw[List.take_length]at c d;subst f;refine List.ext_getElem? (λq=>?_);by_cases hq:q<(ls.filter (kpt rd)).length*5;rw[List.getElem?_take,iP_ hq,Array.getElem?_toList,zdP _ _ _ _ (.inl hq)];have e:q / 5*5+q % 5=q:=by omega
 have a:=c (q / 5) (by omega) (q % 5) (by omega);have b:=zfx (ls.filter (kpt rd)) (q / 5) (q % 5) (by omega) (by omega);rw[e]at a b;rw[a,b];rw[List.getElem?_take,iN_ hq,List.getElem?_eq_none (by rw[ze3];omega)]
theorem znv (b:List Ct)(rd:Int)(k:Nat)(f:k<b.length)(h:zaC (zdv b rd) b.length=k):(b.take (k+1)).filter (kpt rd)=b.take k:=by
 have d:=zoq (zdv b rd) b.length (by omega);rw[h]at d;have d:zdv b rd k=true:=d;rw[zku b rd k f]at d;rw[zmJ b rd k f (by rw[kpt,d];rfl),List.filter_eq_self];intro c j;obtain⟨m,l,rfl⟩:=List.getElem_of_mem j;rw[lT9_]at l;have p:m<k:=by omega
 have g:zdv b rd m=false:=by
  by_cases e:zdv b rd m=true;have o:=zkl (zdv b rd) m;by_cases e2:zaC (zdv b rd) m=-1;have:=zgc _ m b.length e2 e (by omega);omega;have:=zm5 (zdv b rd) m b.length (by omega) (by omega);omega
  simpa using e
 rw[zku b rd m (by omega)]at g;rw[List.getElem_take,kpt,g]
 rfl
theorem zwp (b:List Ct)(rd:Int)(h:zaC (zdv b rd) b.length=-1):b.filter (kpt rd)=b:=by
 rw[List.filter_eq_self];intro c g;obtain⟨m,d,rfl⟩:=List.getElem_of_mem g;have f:=zqP (zdv b rd) b.length (by omega) m d;rw[zku b rd m d]at f;rw[kpt,f]
 rfl
theorem zsC (g:k<ls.length)(h:zaC (zdv ls rd) ls.length=k)(l:cur.size=cap*5)(j:ls.length<=cap)(f:cur.toList.take (ls.length*5)=ctv ls):zez cur cap ls rd (k+1):=by
 have e:=znv ls rd k g h;have d:∀q (b:q<ls.length) t,t<5->cur[q*5+t]? = (ls[q]).cs[t]?:=λq b t c=>by
  rw[<-zfx ls q t b c,<-f,List.getElem?_take,iP_ (by omega),Array.getElem?_toList]
 refine⟨l,j,?_,λq b t _ c=>d q b t c,by rw[e,lT9_];omega⟩;rw[e];intro q b t c;rw[lT9_]at b;rw[List.getElem_take];exact d q (by omega) t c
theorem zl8 {b:Nat}{s:Nat}(h:w.ownsRow B T s (.slice (some (p_ b 0)) n cap) n xs):∃c,B<=b/\R_ w b c T/\n<=cap/\cap<=maxLen/\c.size=cap*s/\c.toList.take (n*s)=xs:=by
 rcases h.2 with⟨e,_⟩|⟨g,p,c,e,d,f,j,l,m,o⟩;cases e;cases e;exact⟨c,d,f,j,l,m,o⟩
theorem zpq (n:Nat):(Builtin.zeroCells (Value.agg #[I_ 0,I_ 0,O_,O_,O_]).cells n).toList.length=n*5:=by
 simp[Builtin.zeroCells,Value.cells]
theorem zpr (n:Nat):∀v∈(Builtin.zeroCells (Value.agg #[I_ 0,I_ 0,O_,O_,O_]).cells n).toList,v.oneCell'=true:=by
 intro v c;simp only[Builtin.zeroCells,Value.cells,Array.toList_map,mM_]at c;obtain⟨i,_,rfl⟩:=c;have b:i % (#[I_ 0,I_ 0,O_,O_,O_]:X_).size<5:=Nat.mod_lt _ (by decide);generalize i % (#[I_ 0,I_ 0,O_,O_,O_]:X_).size=k at b|-
 match k,b with
 | 0,_=>rfl
 | 1,_=>rfl
 | 2,_=>rfl
 | 3,_=>rfl
 | 4,_=>rfl
theorem zl9 (d:n<=B):∀(c:List Value) (V:World) (o:Nat),Below n w V->Below n w (V.setCells B o c):=λc=>by
 induction c with
 | nil=>intro V o b;exact b
 | cons u r ih=>intro V o b;exact ih _ _ (b.setCell d _)
theorem zyN:(prog.info? 88).map (·.size)=some 5:=by kernel_rfl
theorem zez.go {j i:Nat}(h:zez cur cap ls rd j)(c:j<ls.length)(b:i=((ls.take j).filter (kpt rd)).length)(f:decide ((ls[j]).v.rd<rd)=false):zez (zd4 cur (i*5) (ls[j]).cs) cap ls rd (j+1)/\i+1=((ls.take (j+1)).filter (kpt rd)).length:=by
 have d:kpt rd (ls[j])=true:=by rw[kpt,f];rfl
 refine⟨h.yes c d b,?_⟩;rw[zpp ls rd j c d,lP_,<-b]
 rfl
theorem zez.skip {j i:Nat}(h:zez cur cap ls rd j)(b:j<ls.length)(f:i=((ls.take j).filter (kpt rd)).length)(d:decide ((ls[j]).v.rd<rd)=true):zez cur cap ls rd (j+1)/\i=((ls.take (j+1)).filter (kpt rd)).length:=by
 have c:kpt rd (ls[j])=false:=by rw[kpt,d];rfl
 refine⟨h.no b c,?_⟩;rw[zmJ ls rd j b c];exact f
theorem zqA (c:List Ct)(b d B:Nat)(rd:Int)(g:Nat)(w0 w:World)(hl:c.length<=400)(aw:B_ w0 w)(hB:w0.heap.size<=B)(ho:w.ownsRow B 88 5 (.slice (some (p_ b 0)) c.length d) c.length (ctv c))(az:g≠b)(hg:C_ w g 0 (I_ rd))(hp:zba w (some (p_ b 0)) c) :
  Calls prog 150 #[.slice (some (p_ b 0)) c.length d,.func (.func 149) #[] #[P_ g 0]] w λe w'=>e=.returned (.slice (some (p_ b 0)) (c.filter (kpt rd)).length d)/\w'.ownsRow B 88 5 (.slice (some (p_ b 0)) (c.filter (kpt rd)).length d) (c.filter (kpt rd)).length (ctv (c.filter (kpt rd)))/\B_ w0 w':=by
 have HI:=zjt c (some (p_ b 0)) _ d rd g w rfl hl hp hg;have ai:=zkl (zdv c rd) c.length;obtain⟨g1,af,q0,ax,al,aD,aE⟩:=zl8 ho;go_in;go_wp2_with fail
 refine HI.mono ?_;rintro _ w1⟨rfl,F⟩;dsimp only;clear HI;have ad:=zm aw F;by_cases em:zaC (zdv c rd) c.length=-1
 .have HA:Hid _:=zwp c rd em;have aC:=zw ho F;rw[em];clear em ai;go_wp2_with fail
  go_ret;rw[HA.out];exact⟨rfl,aC,ad⟩
 obtain⟨q,H⟩:∃k:Nat,zaC (zdv c rd) c.length=k:=⟨(zaC (zdv c rd) c.length).toNat,by omega⟩;have ak:q<c.length:=by omega
 have aq:Hid _:=zsC ak H aD ax aE;have av:Hid (q=((c.take (q+1)).filter (kpt rd)).length):=by show _=_;rw[znv c rd q ak H,lT9_,Nat.min_eq_left (by omega)]
 rw[H];have aJ:((q:Int) == -1)=false:=by simp
 clear em ai H;have q1:=zk F q0;have ay:=zr F hg;have ag:=nT_ hB af;go_wp2_with fail
 go_loopw [6,5] (λjv iv wr=>∃(j i:Nat) (f:X_),j<=c.length/\jv=I_ j/\iv=I_ i/\Hid (i=((c.take j).filter (kpt rd)).length)/\i<j/\Hid (zez f d c rd j)/\R_ wr b f 88/\C_ wr g 0 (I_ rd)/\B_ w0 wr) (λjv _ _=>c.length-(intOf jv).toNat)
 case atStart=>exact⟨q+1,q,_,by omega,by go_num,rfl,av,by omega,aq,q1,ay,ad⟩
 case round=>
  obtain⟨j,i,f,hj,rfl,rfl,D,aH,m,l,aj,Y⟩:=hrel;by_cases hlt:j<c.length
  .have aB:(j:Int)<c.length:=by omega
   have r:=m.out.high j hlt;have c0:=zb l (j*5) _ (r 0 (nR_ _) (by decide));have c1:=zb l (j*5+1) _ (r 1 (nR_ _) (by decide));have c2:=zb l (j*5+2) _ (r 2 (nR_ _) (by decide));have c3:=zb l (j*5+3) _ (r 3 (nR_ _) (by decide));have c4:=zb l (j*5+4) _ (r 4 (nR_ _) (by decide));have I:Hid (decide ((c[j]).v.rd<rd)=false->zez (zd4 f (i*5) (c[j]).cs) d c rd (j+1)/\i+1=((c.take (j+1)).filter (kpt rd)).length):=m.out.go hlt D.out;have J:Hid (decide ((c[j]).v.rd<rd)=true->zez f d c rd (j+1)/\i=((c.take (j+1)).filter (kpt rd)).length):=m.out.skip hlt D.out;have HS:Hid (f.size=d*5/\c.length<=d):=⟨m.out.siz,m.out.le⟩;clear r m D;generalize c[j]=x at*;have z:=zC wr (.cells (crow_ x) 88);have o:=hN_ wr (.cells (crow_ x) 88);go_upto_region 8 with fail
   generalize wr.alloc (.cells (crow_ x) 88)=W3 at z o|-;have ab:=zr z aj;have ao:=(z.block b (ze l)).trans l;have ar:=zm Y z;generalize wr.heap.size=G at o|-;have M:=zb o 0 (I_ x.au) rfl;have N:=zb o 1 (I_ x.rd) rfl;refine kV_ ?A0 ?_;exact Value.slice x.ba x.bl.length x.bc;have O:=zb o 2 ?A0 rfl;refine kV_ ?B0 ?_;exact Value.slice x.pa x.pl.length x.pc;have R:=zb o 3 ?B0 rfl;refine kV_ ?C0 ?_;exact Value.slice x.va x.vl.length x.vc;have T:=zb o 4 ?C0 rfl;have HC:=zkV x rd g W3 ab;clear c0 c1 c2 c3 c4 l aj Y z;go_wp2_with fail
   refine HC.mono ?_;rintro _ u⟨rfl,C⟩;dsimp only;clear HC M N O R T;have s:=zk C o;have E:=zk C ao;have aa:=zr C ab;have U:=zm ar C;clear o ao ab C;generalize decide (x.v.rd<rd)=y at*;cases y with
   | true=>
    have p:=J.out rfl;have V:Hid _:=p.1;have X:Hid _:=p.2;clear p J I;go_wp2_with fail
    go_roundw
    case rel=>exact⟨j+1,i,f,by omega,by go_num,rfl,X,by omega,V,E,aa,U⟩
    case measure=>simp[intOf];omega
   | false=>
    have p:=I.out rfl;have V:Hid _:=p.1;have X:Hid _:=p.2;clear p J I;have M:=zb s 0 (I_ x.au) rfl;have N:=zb s 1 (I_ x.rd) rfl;have O:=zb s 2 ?A0 rfl;have R:=zb s 3 ?B0 rfl;have T:=zb s 4 ?C0 rfl;have aI:(i:Int)<c.length:=by omega
    have an:Hid (u.there b (i*5) 5):=λt ht=>by
     have hs:=HS.out;have hx:i*5+t<f.size:=by omega
     exact⟨by rw[zb E (i*5+t) (f[i*5+t]) (Array.getElem?_eq_getElem hx)];rfl,zd E _⟩
    have ap:Hid _:=zb7 x.cs u f (i*5) E;have ah:Hid ((u.setCells b (i*5) x.cs).cell? (p_ g 0)=some (I_ rd)):=(cB_ (zbl x.cs u (i*5) az)).trans aa;have ae:Hid _:=zl9 ag x.cs u (i*5) U;clear E aa U HS s;have am:Hid (((crow_ x):X_).all (·.oneCell')=true):=by show _=_;simp[Value.oneCell']
    go_upto_region 10 with(refine wpList_store_mid rfl 88 (.tmp 33) (.tmp 32) rfl b (i*5) (crow_ x) rfl rfl an.out zyN am.out ?_)
    obtain⟨L,A⟩:∃W,u.setCells b (i*5) [I_ x.au,I_ x.rd,?A0,?B0,?C0]=W:=⟨_,rfl⟩;rw[A];have aF:R_ L b (zd4 f (i*5) x.cs) 88:=by rw[<-A];exact ap.out
    have aA:C_ L g 0 (I_ rd):=by rw[<-A];exact ah.out
    have au:B_ w0 L:=by rw[<-A];exact ae.out
    clear A ap ah ae an am M N O R T;go_wp2_with fail
    go_roundw
    case rel=>exact⟨j+1,i+1,_,by omega,by go_num,by go_num,X,by omega,V,aF,aA,au⟩
    case measure=>simp[intOf];omega
  obtain rfl:j=c.length:=by omega
  have aB:¬(c.length:Int)<c.length:=by omega
  have ac:Hid (i=(c.filter (kpt rd)).length):=by show _=_;rw[D.out,List.take_length]
  have hs:=m.out.siz;have aK:=m.out.le;have aG:∀ty,(Builtin.clear_ #[36] ty #[.slice (some (p_ b (i*5))) (c.length-i) (d-i)]).run prog wr=.ok (.tuple #[]) (wr.setCells b (i*5) (Builtin.zeroCells (Value.agg #[I_ 0,I_ 0,O_,O_,O_]).cells (c.length-i)).toList):=λty=>by
   refine zir _ 36 88 ty (.agg #[I_ 0,I_ 0,O_,O_,O_]) underlying36 zeroValue88 b _ _ _ (by omega) _ rfl (λt ht=>?_) (λt ht=>zd l _) (zpr _);rw[zpq]at ht;have hx:i*5+t<f.size:=by omega
   rw[zb l (i*5+t) (f[i*5+t]) (Array.getElem?_eq_getElem hx)];rfl
  have hO:Hid (∀W:World,W=wr.setCells b (i*5) (Builtin.zeroCells (Value.agg #[I_ 0,I_ 0,O_,O_,O_]).cells (c.length-i)).toList->W.ownsRow B 88 5 (.slice (some (p_ b 0)) i d) i (ctv (c.filter (kpt rd)))/\B_ w0 W):=by
   show ∀W,_;rintro W rfl;refine⟨⟨by rw[ze3,<-ac.out],.inr ⟨b,d,_,rfl,af,zb7 _ wr f (i*5) l,by omega,al,by rw[zcW];exact hs,m.out.end ac.out⟩⟩,zl9 ag _ wr (i*5) Y⟩
  have p1:(i:Int)<=c.length:=by omega
  have p2:i<=c.length:=by omega
  have p3:i<=d:=by omega
  have p4:¬d=i:=by omega
  have p5:(i:Int)<=d:=by omega
  have aL:d<=9223372036854775807:=al;clear m hs D l;go_wp2_with fail
  go_ret;rw[<-ac.out];obtain⟨o1,o2⟩:=hO.out _ rfl;exact⟨rfl,o1,o2⟩
theorem zwq (l:List Ct):∀u∈ctv l,u.oneCell'=true:=by
 induction l with
 | nil=>intro u b;cases b
 | cons c l ih=>
  intro u b;rcases mA_.1 b with g|g;simp only[Ct.cs,List.mem_cons,List.not_mem_nil,or_false]at g;rcases g with e|e|e|e|e<;>subst e<;>rfl;exact ih u g
theorem zps {b:Nat}(h:w.ownsRow B 88 5 (.slice (some (p_ b 0)) n cap) n (ctv ls)):∀j u,(ctv ls)[j]? = some u->w.cell? ((p_ b 0:Addr).add j)=some u:=λj u c=>by
 obtain⟨f,_,q,_,_,_,d⟩:=zl8 h
 rw[<-d,List.getElem?_take]at c
 split at c
 .rw[zaP,zA_]
  exact zb q j u (by rw[<-Array.getElem?_toList];exact c)
 .cases c
theorem zqB (c:List Ct)(b d:Nat)(w:World)(B:c.length<=400)(g:w.ownsRow 0 88 5 (.slice (some (p_ b 0)) c.length d) c.length (ctv c)) :
  Calls prog 151 #[.slice (some (p_ b 0)) c.length d] w λe w'=>∃v,e=.returned v/\w'.ownsRow w.heap.size 88 5 v c.length (ctv c)/\B_ w w':=by
 have A:∀w:World,(binOp .eql 36 (.slice (some (p_ b 0)) c.length d) (O_)).run prog w=.ok (.bool false) w:=λ_=>rfl;have f:=zC w (.cells #[] 88);have m:Hid (∀j u,(ctv c)[j]? = some u->(w.alloc (.cells #[] 88)).cell? ((p_ b 0:Addr).add j)=some u):=zps (oA_ g _);obtain⟨y,p,r,s,t⟩:=info_parts zoI;clear g;go_in;go_wp2_with (at_builtin;refine wpList_append_own_at _ rfl _ _ 36 rfl w.heap.size 88 y (.agg #[I_ 0,I_ 0,O_,O_,O_]) 5 88 underlying36 p r s t rfl (by decide) _ 0 [] rfl (World.ownsRow_made _ _ 0 (nR_ _) (by decide) rfl) (p_ b 0) c.length d (ctv c) rfl (ze3 c) m.out (zwq c) (by unfold maxLen;omega) (by omega) f.size ?_;intro z C l o _ _)
 rw[List.nil_append,zA_]at l;go_ret;exact⟨z,rfl,l,Below.grown f o f.size (λq e=>(World.ownsRow.lt (World.ownsRow_made (e:=88) (size:=5) w #[] 0 (nR_ _) (by decide) rfl) q e).1)⟩
open Go.Shelf
def zma:Go.Shelf.Ren:=⟨fun|6=>152|15=>185|14=>188|28=>215|29=>216|20=>217|21=>218|22=>219|23=>220|24=>221|25=>222|26=>223|27=>224|46=>235|47=>231|48=>232|49=>236|50=>237|57=>240|n=>n,fun|22=>36|24=>88|25=>214|3=>3|39=>200|0=>0|53=>243|55=>263|4=>4|46=>255|45=>254|50=>259|5=>5|9=>9|66=>286|70=>290|76=>296|77=>297|n=>n,fun|n=>n⟩
theorem zuN:Go.Proofs.SlLaysF0.n6 prog zma:={
 mixed:=by kernel_rfl
 f6:=⟨Tryz.f152.name,by decide,func152.trans (cA_ some (by kernel_rfl))⟩
 f14:=⟨Tryz.f188.name,by decide,func188.trans (cA_ some (by kernel_rfl))⟩
 f15:=func185.trans (cA_ some (by kernel_rfl))
 f20:=⟨Tryz.f217.name,by decide,func217.trans (cA_ some (by kernel_rfl))⟩
 f21:=⟨Tryz.f218.name,by decide,func218.trans (cA_ some (by kernel_rfl))⟩
 f22:=⟨Tryz.f219.name,by decide,func219.trans (cA_ some (by kernel_rfl))⟩
 f23:=⟨Tryz.f220.name,by decide,func220.trans (cA_ some (by kernel_rfl))⟩
 f24:=⟨Tryz.f221.name,by decide,func221.trans (cA_ some (by kernel_rfl))⟩
 f25:=⟨Tryz.f222.name,by decide,func222.trans (cA_ some (by kernel_rfl))⟩
 f26:=⟨Tryz.f223.name,by decide,func223.trans (cA_ some (by kernel_rfl))⟩
 f27:=⟨Tryz.f224.name,by decide,func224.trans (cA_ some (by kernel_rfl))⟩
 f28:=func215.trans (cA_ some (by kernel_rfl))
 f29:=func216.trans (cA_ some (by kernel_rfl))
 f46:=⟨Tryz.f235.name,by decide,func235.trans (cA_ some (by kernel_rfl))⟩
 f47:=func231.trans (cA_ some (by kernel_rfl))
 f48:=func232.trans (cA_ some (by kernel_rfl))
 f49:=⟨Tryz.f236.name,by decide,func236.trans (cA_ some (by kernel_rfl))⟩
 f50:=⟨Tryz.f237.name,by decide,func237.trans (cA_ some (by kernel_rfl))⟩
 f57:=⟨Tryz.f240.name,by decide,func240.trans (cA_ some (by kernel_rfl))⟩
 t0:=underlying0
 a0:=isAgg0
 z0:=sizeOf0
 v0:=zeroValue0
 t3:=underlying3
 a3:=isAgg3
 z3:=sizeOf3
 v3:=zeroValue3
 t4:=underlying4
 a4:=isAgg4
 z4:=sizeOf4
 v4:=zeroValue4
 t5:=underlying5
 a5:=isAgg5
 z5:=sizeOf5
 v5:=zeroValue5
 t9:=underlying9
 a9:=isAgg9
 z9:=sizeOf9
 v9:=zeroValue9
 t22:=underlying36
 a22:=isAgg36
 z22:=sizeOf36
 v22:=zeroValue36
 t25:=underlying214
 a25:=isAgg214
 z25:=sizeOf214
 v25:=zeroValue214
 t39:=underlying200
 a39:=isAgg200
 z39:=sizeOf200
 v39:=zeroValue200
 t45:=underlying254
 a45:=isAgg254
 z45:=sizeOf254
 v45:=zeroValue254
 t46:=underlying255
 a46:=isAgg255
 z46:=sizeOf255
 v46:=zeroValue255
 t50:=underlying259
 a50:=isAgg259
 z50:=sizeOf259
 v50:=zeroValue259
 t53:=underlying243
 a53:=isAgg243
 z53:=sizeOf243
 v53:=zeroValue243
 t55:=underlying263
 a55:=isAgg263
 z55:=sizeOf263
 v55:=zeroValue263
 t66:=underlying286
 a66:=isAgg286
 z66:=sizeOf286
 v66:=zeroValue286
 t70:=underlying290
 a70:=isAgg290
 z70:=sizeOf290
 v70:=zeroValue290
 t76:=underlying296
 a76:=isAgg296
 z76:=sizeOf296
 v76:=zeroValue296
 t77:=underlying297
 a77:=isAgg297
 z77:=sizeOf297
 v77:=zeroValue297 }
open Go.Sort
theorem znO {α:Type}[Inhabited α](d:α->List Value)(k:Nat){w:World}(b g m:Nat)(c:Array α)(os:Array Obj)(j:Nat)(f:j<w.heap.size)(l:j≠b):(sortWorldK d k w b g m c os).heap[j]? = w.heap[j]?:=by
 unfold sortWorldK;rw[heap_grow_old _ _ (by rw[size_putRowK];exact f)];show((Sort.ahead w m).heap.modify b _)[j]? = _;rw[Array.getElem?_modify,iN_ (by omega)]
 rfl
theorem znP {α:Type}[Inhabited α](d:α->List Value)(k:Nat){w0 w:World}(b f m:Nat)(c:Array α)(os:Array Obj)(g:Go.RowKit.Below w0.heap.size w0 w)(h:w0.heap.size<=b):Go.RowKit.Below w0.heap.size w0 (sortWorldK d k w b f m c os):=by
 have o:=size_sortWorldK_c d k w b f m c os;refine g.trans ⟨rfl,rfl,rfl,o,λj l=>?_⟩;exact znO d k b f m c os j (nL_ l g.size) (by omega)
theorem zsD [Inhabited Ct](ds:List Ct):flatK Ct.cs 5 ds.toArray=(ctv ds).toArray:=by
 refine ext_get! (by simp[ze3]) λt j=>?_;have l:t<ds.length*5:=by simpa using j
 rw[get_flatK _ _ _ _ (by simpa using l)];have c:t / 5<ds.length:=by omega
 have b:=zfx ds (t / 5) (t % 5) c (by omega);have g:t / 5*5+t % 5=t:=by omega
 rw[g]at b;have d:(ctv ds).toArray[t]! = ((ctv ds)[t]?).getD default:=by simp[Array.getElem!_eq_getD,Array.getD_eq_getD_getElem?]
 rw[d,b];have f:ds.toArray[t / 5]! = ds[t / 5]:=by simp[c]
 rw[f];simp[List.getElem!_eq_getElem?_getD]
def kCt (c:Ct):Int×Int:=(c.rd,c.au)
structure zwr (w0 w':World)(e:Ending)(sa:Q_)(ls:List Ct):Prop where
 below:Go.RowKit.Below w0.heap.size w0 w'
 out:e=.returned (.tuple #[])/\∃ks:List Ct,ks.Perm ls/\(∀i j (hi:i<j) (hj:j<ks.length),¬zeh (kCt (ks[j])) (kCt (ks[i]))<0)/\zba w' sa ks
theorem znQ [Inhabited Ct](b:List Ct)(g p B:Nat)(w0 w:World)(R:Go.RowKit.Below w0.heap.size w0 w)(M:w0.heap.size<=B)(hl:b.length<=1000)(s:w.ownsRow B 88 5 (.slice (some (p_ g 0)) b.length p) b.length (ctv b)) :
  Calls prog 152 #[.slice (some (p_ g 0)) b.length p,.func (.func 153) #[] #[]] w λe w'=>zwr w0 w' e (some (p_ g 0)) b:=by
 have r:=s.lt g rfl;have U:∀j,w.frozen? (p_ g j)=false:=by
  intro j;rcases s.2 with⟨h,_⟩|⟨g',aa,ab,h,_,V,_⟩;cases h;cases h;exact zd V j
 have E:HoldsK Ct.cs 5 w g 0 b.toArray:=by
  intro j f;rw[zsD]at f|-;have q:j<(ctv b).length:=by simpa using f
  rw[zA_];refine⟨?_,U j⟩;rw[World.ownsRow.cellAt s j (by rw[ze3]at q;exact q)];simp[q]
 have N:CmpLays prog 153 #[] Ct.cs 5 (λx y=>zeh (kCt x) (kCt y)) g 0 b.toArray.size w:=by
  intro m os dk ac x y;exact zqz x.au x.rd y.au y.rd _ _ _ _ _ _ _ _ _ _ _ _ _ _ _ _ _ _ _
 have H:=AnyQ.slices_SortFunc zuN 5 isAgg88 sizeOf88 Ct.cs (λ_=>rfl) (λx v I=>by simp[Ct.cs]at I;rcases I with rfl|rfl|rfl|rfl|rfl<;>rfl) (λx y=>zeh (kCt x) (kCt y)) (zuL.swo kCt) 153 #[] g 0 p b.toArray w (eO_ func153) N E r.2 (by simp;omega);have o:b.toArray.size=b.length:=by simp
 rw[o]at H;refine H.mono ?_;rintro e w'⟨rfl,d,n,os,G,Z,rfl⟩;have F:d.size=b.length:=by rw[G.1];exact o
 have Y:d.toList.Perm b:=by
  have D:=G.2.2;have J:d.extract 0 b.length=d:=by rw[<-F];simp
  have L:b.toArray.extract 0 b.length=b.toArray:=by rw[<-o];simp
  rw[J,L]at D
  simpa using D
 refine⟨znP _ _ _ _ _ _ _ R (nT_ M r.1),rfl,d.toList,Y,?_,?_⟩;intro i j X f;have l:j<d.size:=by simpa using f
 have h:=Z i j (nZ_ _) X (by omega);rw[getElem!_pos d j l,getElem!_pos d i (by omega)]at h;simp only[ltOf,decide_eq_false_iff_not]at h
 simpa using h
 have O:=holdsK_sortWorldK_c Ct.cs 5 w g 0 b.toArray d n os E r.2 (by rw[F,o]);refine⟨.inr ⟨g,0,rfl,λj f=>?_⟩⟩;have l:j<d.size:=by simpa using f
 have c:=λc (T:c<5)=>(O.cell (i:=j) (c:=c) l T).1;have t:=c 0 (by omega);have u:=c 1 (by omega);have z:=c 2 (by omega);have A:=c 3 (by omega);have C:=c 4 (by omega);rw[getElem!_pos d j l]at t u z A C;simp only[Array.getElem_toList];exact⟨t,u,z,A,C⟩
theorem znR (b:List Ct)(g c B:Nat)(w0 w:World)(f:Go.RowKit.Below w0.heap.size w0 w)(d:w0.heap.size<=B)(j:b.length<=1000)(l:b≠[])(m:w.ownsRow B 88 5 (.slice (some (p_ g 0)) b.length c) b.length (ctv b)) :
  Calls prog 152 #[.slice (some (p_ g 0)) b.length c,.func (.func 153) #[] #[]] w λe w'=>zwr w0 w' e (some (p_ g 0)) b:=by
 obtain⟨o,p⟩:=List.exists_mem_of_ne_nil b l;exact @znQ ⟨o⟩ b g c B w0 w f d j m
variable {ra:Q_}{rc:Nat}
theorem zpt (x:Nat)(w:World)(h:x<4611686018427387904):Calls prog 185 #[.int .u64 (x:Int)] w λe w'=>(∃l:Int,e=.returned (I_ l))/\w=w':=by
 have b:=Any.bits_Len (SlLaysF0.n15.bits (P:=prog) (ρ:=zma) { zuN with }) (x:Int) w (by omega) (by omega);exact b.mono λe w' h=>⟨⟨_,h.1⟩,h.2.symm⟩
theorem zpu (c:Q_)(b g:Nat)(w:World):Calls prog 217 #[.slice c 0 b,I_ 0,I_ 0,.func (.func g) #[] #[]] w λe w'=>e=.returned (.tuple #[])/\w=w':=by
 go_in;go_wp2_with fail
 go_loop [8] (λi=>i=I_ 1) (λ_=>0)
 case atStart=>rfl
 case round=>
  subst hrel;go_wp2_with fail
  go_end0;exact⟨rfl,rfl⟩
theorem zuO (c:Q_)(b g:Nat)(l:Int)(w:World):Calls prog 188 #[.slice c 0 b,I_ 0,I_ 0,I_ l,.func (.func g) #[] #[]] w λe w'=>e=.returned (.tuple #[])/\w=w':=by
 go_in;go_wp2_with fail
 go_loop [1,2] (λi j=>i=I_ 0/\j=I_ 0) (λ_ _=>0)
 case atStart=>exact⟨rfl,rfl⟩
 case round=>
  obtain⟨rfl,rfl⟩:=hrel;go_wp2_with (go_at_call 217;refine(zpu _ _ _ _).mono ?_;rintro e w'⟨rfl,rfl⟩)
  (try simp only[Exit.inBlock,Exit.then]);refine bP_ (results_none rfl _ _ _) rfl ?_
  exact⟨rfl,rfl⟩
theorem zsE (c:Q_)(b g:Nat)(w:World):Calls prog 152 #[.slice c 0 b,.func (.func g) #[] #[]] w λe w'=>e=.returned (.tuple #[])/\w=w':=by
 go_in;go_wp2_with (first|(go_at_call 185;refine(zpt 0 _ (by decide)).mono ?_;rintro e w'⟨⟨l,rfl⟩,rfl⟩)|(go_at_call 188;refine(zuO _ _ _ _ _).mono ?_;rintro e w'⟨rfl,rfl⟩))
 go_end0;exact⟨rfl,rfl⟩
theorem zqC {b:Nat}(h:w.ownsRow B 88 5 (.slice (some (p_ b 0)) n cap) n (ctv ls)):zba w (some (p_ b 0)) ls:=by
 refine⟨.inr ⟨b,0,rfl,λj d=>?_⟩⟩;have c:∀t u,t<5->(ls[j]).cs[t]? = some u->C_ w b (0+j*5+t) u:=λt u f g=>by
  have:=zps h (j*5+t) u (by rw[zfx ls j t d f];exact g);rw[zaP]at this;rw[Nat.add_assoc];exact this
 exact⟨c 0 _ (by decide) rfl,c 1 _ (by decide) rfl,c 2 _ (by decide) rfl,c 3 _ (by decide) rfl,c 4 _ (by decide) rfl⟩
theorem zll {s:Nat}(h:w.ownsRow B T s (.slice ra n rc) n xs):(ra=none/\n=0/\rc=0)\/∃b,ra=some (p_ b 0):=by
 rcases h.2 with⟨e,_⟩|⟨g,c,d,e,_⟩;cases e;exact .inl ⟨rfl,rfl,rfl⟩;cases e;exact .inr ⟨g,rfl⟩
theorem zqD (b:List Ct)(c:Q_)(rc B:Nat)(w0 w:World)(d:B_ w0 w)(m:w0.heap.size<=B)(p:b.length<=1000)(f:w.ownsRow B 88 5 (.slice c b.length rc) b.length (ctv b)) :
  Calls prog 152 #[.slice c b.length rc,.func (.func 153) #[] #[]] w λe w'=>zwr w0 w' e c b:=by
 by_cases hn:b=[];subst hn;refine(zsE c rc _ w).mono ?_;rintro e w'⟨rfl,rfl⟩;exact⟨d,rfl,[],List.Perm.refl _,λi j _ o=>absurd o (Nat.not_lt_zero _),⟨.inl rfl⟩⟩;rcases zll f with⟨_,l,_⟩|⟨g,rfl⟩;exact absurd (List.length_eq_zero_iff.1 l) hn;exact znR b g rc B w0 w d m p hn f
theorem zsF (b:Nat)(rd:Int)(g:Nat)(w:World)(j:C_ w g 0 (I_ rd)) :
  Calls prog 150 #[.slice none 0 b,.func (.func 149) #[] #[P_ g 0]] w λe w'=>e=.returned (.slice none 0 b)/\B_ w w':=by
 have c:=zjt [] none 0 b rd g w rfl (by decide) ⟨.inl rfl⟩ j;have l:zaC (zdv [] rd) 0=-1:=rfl;go_in;go_wp2_with fail
 refine c.mono ?_;rintro _ m⟨rfl,d⟩;dsimp only;rw[show zaC (zdv [] rd) (List.length ([]:List Ct))=-1 from rfl];clear c l;go_wp2_with fail
 go_ret;exact⟨rfl,d⟩
structure zzH (w0 w':World)(e:Ending)(ra:Q_)(rc B:Nat)(kl:List Ct):Prop where
 out:e=.returned (.slice ra kl.length rc)
 own:w'.ownsRow B 88 5 (.slice ra kl.length rc) kl.length (ctv kl)
 below:B_ w0 w'
theorem zsG (c:List Ct)(j:Q_)(rc B:Nat)(rd:Int)(g:Nat)(w0 w:World)(s:c.length<=400)(f:B_ w0 w)(q:w0.heap.size<=B)(d:w.ownsRow B 88 5 (.slice j c.length rc) c.length (ctv c))(t:g<B)(l:C_ w g 0 (I_ rd)) :
  Calls prog 150 #[.slice j c.length rc,.func (.func 149) #[] #[P_ g 0]] w λe w'=>zzH w0 w' e j rc B (c.filter (kpt rd)):=by
 rcases zll d with⟨rfl,m,rfl⟩|⟨b,rfl⟩;obtain rfl:c=[]:=List.length_eq_zero_iff.1 m;refine(zsF 0 rd g w l).mono ?_;rintro e w'⟨rfl,r⟩;exact⟨rfl,oN_ _ _ _ _,f.trans (r.mono f.size)⟩;refine(zqA c b rc B rd g w0 w s f q d (λe=>?_) l (zqC d)).mono ?_;have:=(d.lt b rfl).1;omega;rintro e w'⟨rfl,o,p⟩;exact⟨rfl,o,p⟩
theorem zpv (c:List Ct)(q:Q_)(rc:Nat)(w:World)(o:c.length<=400)(l:w.ownsRow 0 88 5 (.slice q c.length rc) c.length (ctv c)) :
  Calls prog 151 #[.slice q c.length rc] w λe w'=>∃d f,e=.returned (.slice d c.length f)/\w'.ownsRow w.heap.size 88 5 (.slice d c.length f) c.length (ctv c)/\B_ w w':=by
 rcases zll l with⟨rfl,j,rfl⟩|⟨b,rfl⟩
 .obtain rfl:c=[]:=List.length_eq_zero_iff.1 j;have u:∀w:World,(binOp .eql 36 (O_) (O_)).run prog w=.ok (.bool true) w:=λ_=>rfl;clear l j o;go_in;go_wp2_with fail
  go_ret;exact⟨none,0,rfl,oN_ _ _ _ _,bR_ _ _⟩
 refine(zqB c b rc w o l).mono ?_;rintro e w'⟨v,rfl,m,r⟩;obtain⟨d,f,rfl⟩:∃d f,v=.slice d c.length f:=by
  rcases m.2 with⟨e,p⟩|⟨g,s,t,e,_⟩;have j:c.length=0:=by first|exact p|exact p.1|omega
  exact⟨none,0,by rw[e,j]⟩;exact⟨_,_,e⟩
 exact⟨d,f,rfl,m,r⟩
theorem zuP (a b:CV):leC a b=true\/leC b a=true:=by
 unfold leC;simp only[dE_];omega
theorem zuQ {a b c:CV}(d:leC a b=true)(f:leC b c=true):leC a c=true:=by
 unfold leC at*;simp only[dE_]at*;omega
theorem zxM {a b:CV}(c:leC a b=true)(d:leC b a=true):a.rd=b.rd/\a.au=b.au:=by
 unfold leC at*;simp only[dE_]at*;omega
theorem znw (x:CV)(l:List CV):(ziX x l).Perm (x::l):=by
 induction l with
 | nil=>exact List.Perm.refl _
 | cons y l ih=>
  unfold ziX
  split
  exact List.Perm.refl _;exact(ih.cons y).trans (List.Perm.swap x y l)
theorem zsH (l:List CV):(zko l).Perm l:=by
 induction l with
 | nil=>exact List.Perm.refl _
 | cons x l ih=>exact(znw x _).trans (ih.cons x)
theorem zxN (x:CV)(l:List CV)(h:l.Pairwise (λa b=>leC a b=true)):(ziX x l).Pairwise (λa b=>leC a b=true):=by
 induction l with
 | nil=>exact List.pairwise_singleton _ _
 | cons y l ih=>
  obtain⟨d,f⟩:=List.pairwise_cons.1 h;unfold ziX
  split
  rename_i g
  refine List.pairwise_cons.2 ⟨λz c=>?_,h⟩;rcases List.mem_cons.1 c with e|e;rw[e];exact g;exact zuQ g (d z e)
  rename_i g
  refine List.pairwise_cons.2 ⟨λz c=>?_,ih f⟩;rcases List.mem_cons.1 ((znw x l).mem_iff.1 c)with e|e;rw[e];rcases zuP x y with q|q;exact absurd q g;exact q;exact d z e
theorem zws (l:List CV):(zko l).Pairwise (λa b=>leC a b=true):=by
 induction l with
 | nil=>exact List.Pairwise.nil
 | cons x l ih=>exact zxN x _ ih
theorem zsI:∀(a b:List CV),a.Perm b->a.Pairwise (λx y=>leC x y=true)->b.Pairwise (λx y=>leC x y=true)->(∀x∈a,∀y∈a,x.rd=y.rd->x.au=y.au->x=y)->a=b:=by
 intro a
 induction a with
 | nil=>intro b c _ _ _;exact(List.nil_perm.1 c).symm
 | cons x a ih=>
  intro b c r s d;cases b with
  | nil=>exact absurd c.length_eq (by simp)
  | cons y b=>
   obtain⟨m,o⟩:=List.pairwise_cons.1 r;obtain⟨g,j⟩:=List.pairwise_cons.1 s;have e:x=y:=by
    have C:=c.mem_iff.1 (List.mem_cons_self (a:=x) (l:=a));have f:=c.mem_iff.2 (List.mem_cons_self (a:=y) (l:=b));rcases List.mem_cons.1 C with q|q;exact q;rcases List.mem_cons.1 f with p|p;exact p.symm;obtain⟨A,B⟩:=zxM (m y p) (g x q);exact d x (List.mem_cons_self ..) y f A B
   subst e;rw[ih b (List.Perm.cons_inv c) o j (λu t v z=>d u (mC_ _ t) v (mC_ _ z))]
theorem zwt {l m:List CV}(b:m.Perm l)(d:m.Pairwise (λx y=>leC x y=true))(c:∀x∈l,∀y∈l,x.rd=y.rd->x.au=y.au->x=y):m=zko l:=
 zsI m _ (b.trans (zsH l).symm) d (zws l) (λx f y g=>c x (b.mem_iff.1 f) y (b.mem_iff.1 g))
theorem zpw {l:List CV}(h:zbV l=0){i j:Nat}(o:i<j)(p:j<l.length):¬((zaM l i).rd=(zaM l j).rd/\(zaM l i).au=(zaM l j).au):=λe=>by
 have c:=(zgw h).2 j p
 simp only[zgH,Bool.or_eq_false_iff,decide_eq_false_iff_not,Decidable.not_not]at c
 have b:=c.2
 unfold zfc at b
 have m:i<(l.take j).length:=by rw[lT9_];omega
 have q:¬0<=cOf (l.take j) (zaM l j).au (zaM l j).rd:=λg=>by
  rw[iP_ g]at b
  cases b
 have f:=zqP (zfp (l.take j) (zaM l j).au (zaM l j).rd) (l.take j).length (by unfold cOf at q;omega) i m
 have d:zaM (l.take j) i=zaM l i:=by simp[zaM,List.getD,o]
 simp[zfp,d,e.1,e.2]at f
theorem zqE {l:List CV}(h:zbV l=0):∀x∈l,∀y∈l,x.rd=y.rd->x.au=y.au->x=y:=by
 intro x o y p d f;obtain⟨i,g,rfl⟩:=List.getElem_of_mem o;obtain⟨j,m,rfl⟩:=List.getElem_of_mem p;have b:zaM l i=l[i]:=by simp[zaM,List.getD,g]
 have c:zaM l j=l[j]:=by simp[zaM,List.getD,m]
 rcases Nat.lt_trichotomy i j with q|q|q;exact absurd ⟨by rw[b,c];exact d,by rw[b,c];exact f⟩ (zpw h q m);subst q;rfl;exact absurd ⟨by rw[b,c];exact d.symm,by rw[b,c];exact f.symm⟩ (zpw h q g)
variable {o:Nat}{x:NM}
theorem zre (b:List Ct)(rd:Int):zI (b.filter (kpt rd))=(zI b).filter (λc=>decide (rd<=c.rd)):=by
 unfold zI;rw[List.filter_map]
 congr 1
 refine List.filter_congr (λc _=>?_);simp only[kpt,Function.comp];by_cases h:c.v.rd<rd;rw[dT_ h,dF_ (by omega)];rfl;rw[dF_ h,dT_ (by omega)];rfl
theorem zwu {a b c d:Int}(g:¬zeh (a,b) (c,d)<0):c<a\/(c=a/\d<=b):=by
 have f:=zgn a c;have j:=zgn b d;rw[zpo,orF]at g;unfold orF at g;unfold orF at g
 split at g<;>(try split at g)<;>omega
theorem zzq {c:List Ct}(h:∀i j (f:i<j) (d:j<c.length),¬zeh (kCt (c[j])) (kCt (c[i]))<0):(zI c).Pairwise (λa b=>leC a b=true):=by
 unfold zI;rw[List.pairwise_map,List.pairwise_iff_getElem];intro i j f d l;have g:=h i j l d;generalize c[i]=a at*;generalize c[j]=b at*;unfold leC;refine dT_ ?_;show a.rd<b.rd\/(a.rd=b.rd/\a.au<=b.au);exact zwu g
theorem zuR {b:List Ct}(f:zbV (zI ls)=0)(g:b.Perm (ls.filter (kpt rd)))(l:∀i j (m:i<j) (o:j<b.length),¬zeh (kCt (b[j])) (kCt (b[i]))<0):zI (b.take 8)=zjU (zI ls) rd:=by
 rw[zvw,zjU,<-zre]
 congr 1
 refine zwt (g.map Ct.v) (zzq l) (λx c y d=>?_);rw[zre]at c d;exact zqE f x (List.mem_filter.1 c).1 y (List.mem_filter.1 d).1
theorem zba.hid {o:List Ct}(h:zba w ra o)(r:∀l m,ra=some (p_ l m)->U l=false):zba (zq U w) ra o:=by
 refine⟨?_⟩;rcases h.cells with h|⟨l,m,e,h⟩;exact .inl h;refine .inr ⟨l,m,e,λj p=>?_⟩;have k:∀q v,w.cell? (p_ l q)=some v->(zq U w).cell? (p_ l q)=some v:=λq v g=>(cB_ (zdr (r l m e))).trans g;obtain⟨a,b,c,d,f⟩:=h j p;exact⟨k _ _ a,k _ _ b,k _ _ c,k _ _ d,k _ _ f⟩
theorem zsJ (h:zo w U F o T fc x){f:Q_}{B rc:Nat}{d:List Ct}(m:Below w.heap.size w w')(r:w.heap.size<=B)(y:∀b,ob f=some b->B<=b)(p:d.Perm (x.ls.filter (kpt rd)))(z:∀i j (C:i<j) (D:j<d.length),¬zeh (kCt (d[j])) (kCt (d[i]))<0)(s:zba w' f d){e:Ending}(t:e=.returned (.slice f (d.take 8).length rc)):zv2 w w' e U x rd:=by
 refine⟨f,rc,d.take 8,t,zuR h.inv.dag p z,(s.take 8).hid (λA E e=>h.bnd.new (nT_ r (y A (by rw[e];rfl)))),λc u=>?_,by rw[lT9_];omega,m⟩;have l:=(List.mem_filter.1 (p.mem_iff.1 (List.mem_of_mem_take u))).1;have q:c.v∈x.v.k.dag:=mM_.2 ⟨c,l,rfl⟩;refine⟨(h.stk.ec c l).sub (zao.below U m).sub,znZ h.inv.dag c l,U8L.of (λb g=>h.inv.du8 c.v q b (mA_.2 (.inl g))),U8L.of (λb g=>h.inv.du8 c.v q b (mA_.2 (.inr g)))⟩
theorem znS:zhO:=by
 intro x rd w U F o T fc h;have al:∀(fn:Fn) (first ab:X_) (w:World),(Instr.makeFunc fn first ab).run prog w=.ok (.func fn first ab) w:=λ_ _ _ _=>rfl;obtain⟨z,A,da,dc,B⟩:=h.stkAt;have ae:w.ownsRow 0 88 5 (.slice z x.ls.length A) x.ls.length (ctv x.ls):=by
  have e:=h.stk.box;unfold R_ at e;rw[B.box]at e;simp only[Option.some.injEq,Obj.cells.injEq,and_true]at e;have e2:Value.slice z x.ls.length A=x.vc:=by
   have:=cA_ (λa:X_=>a[0]?) e
   simpa using this
  rw[e2];exact h.stk.rc
 have H:=B.at'.small;have d:=zC w (.cells #[I_ rd] 3);have O:=hN_ w (.cells #[I_ rd] 3);have C:Hid (w.heap.size<(w.alloc (.cells #[I_ rd] 3)).heap.size):=by show _<_;simp
 go_in;go_upto_region 2 with fail
 generalize w.alloc (.cells #[I_ rd] 3)=p at d O C|-;generalize hg:w.heap.size=g at O C|-;have HG:Hid (w.heap.size=g):=hg;clear hg;have h0:=h.below d;have c6:=h0.cell 6 _ rfl;have R:=zfz x.ls x.s z A da dc x.ds p (B.below d);have X:=zpv x.ls z A p H (zw ae d);have Z:Hid (x.ls.length<=400):=H;clear H ae B;go_wp2_with fail
 refine R.mono ?_;rintro _ w1⟨rfl,rfl⟩;dsimp only;clear R;go_wp2_with fail
 refine X.mono ?_;rintro e w2⟨t,f,l,ad,ac⟩;subst l;dsimp only;clear X;have ah:=zm d ac;have g2:w2.cell? (p_ g 0)=some (I_ rd):=zb ((ac.block _ C.out).trans O) 0 _ rfl;have V:=zsG x.ls t f p.heap.size rd g w w2 Z.out ah d.size ad C.out g2;clear c6 ad g2;go_wp2_with fail
 refine V.mono ?_;rintro _ w3⟨rfl,s,ai⟩;dsimp only;clear V;have Y:Hid ((x.ls.filter (kpt rd)).length<=400):=nT_ (List.length_filter_le _ _) Z.out;obtain⟨c,L⟩:∃c,c=x.ls.filter (kpt rd):=⟨_,rfl⟩;have ag:Hid (c=x.ls.filter (kpt rd)):=L;rw[<-L]at s Y|-;clear L;have HS:=zqD c t f p.heap.size w w3 ai d.size (nT_ Y.out (by decide)) s;have G:Hid (∀b,ob t=some b->p.heap.size<=b):=λb e=>(s.lt b (by rw[zdb];exact e)).1;have y:Hid (c.length<=f/\f<=9223372036854775807/\(f=0\/∃b,t=some (p_ b 0))):=by
  show _/\_;rcases s.2 with⟨e,hn⟩|⟨g,aj,ak,e,_,_,h3,h4,_⟩;simp only[Value.slice.injEq]at e;exact⟨by omega,by omega,.inl e.2.2⟩;cases e;exact⟨h3,h4,.inr ⟨_,rfl⟩⟩
 clear s;go_wp2_with fail
 refine HS.mono ?_;rintro e w4⟨J,l,D,M,af,N⟩;subst l;dsimp only;clear HS;have E:Hid (D.Perm (x.ls.filter (kpt rd))):=by show _;rw[<-ag.out];exact M
 have aa:Hid (D.length=c.length):=M.length_eq;have m:Hid _:=af;clear M af;have am:=y.out.1;have an:=y.out.2.1;by_cases h8:8<=c.length
 .have u:Hid ((D.take 8).length=8):=by show _=_;rw[lT9_,aa.out];omega
  have m1:(8:Int)<=c.length:=by omega
  have m2:min (c.length:Int) 8=8:=by omega
  have m3:8<=f:=by omega
  have m4:¬((c.length:Int)<8):=by omega
  obtain⟨b,I⟩:∃b,t=some (p_ b 0):=by
   rcases y.out.2.2 with e|e;omega;exact e
  subst I;go_wp2_with fail
  go_ret;exact zsJ (rc:=f) h J d.size G.out E.out (by first|exact m.out|exact λi j q r=>Int.not_lt.2 (m.out i j q r)) N (by rw[u.out];rfl)
 have u:Hid ((D.take 8).length=c.length):=by show _=_;rw[lT9_,aa.out];omega
 have m1:(c.length:Int)<=8:=by omega
 have m2:min (c.length:Int) 8=c.length:=by omega
 have m4:(c.length:Int)<8:=by omega
 rcases y.out.2.2 with e|⟨b,I⟩
 .obtain hk0:c=[]:=List.length_eq_zero_iff.1 (by omega);subst hk0;subst e;go_wp2_with fail
  all_goals
   go_ret;exact zsJ (rc:=0) h J d.size G.out E.out (by first|exact m.out|exact λi j q r=>Int.not_lt.2 (m.out i j q r)) N (by rw[u.out];rfl)
 subst I;go_wp2_with fail
 all_goals
  go_ret;exact zsJ (rc:=f) h J d.size G.out E.out (by first|exact m.out|exact λi j q r=>Int.not_lt.2 (m.out i j q r)) N (by rw[u.out];rfl)
end Go.Proofs.YtpnpikpmdfipfaaGreatDoor
