import Derived.Test.YtpnpikpmdfipfaaGreatDoorPkTopBehind1
set_option maxRecDepth 100000
set_option maxHeartbeats 4000000
namespace Go.Proofs.YtpnpikpmdfipfaaGreatDoor
open Go.RowKit _root_.Go.Proofs.Tryz
def zBz (e r:Nat)(p:List (List Nat)):List (List Nat):=[0,1,2,3].map λa=>bif okK e (Nat.add (Nat.mul 4 r) a)then hdN a r ((zdV (zaR e (Nat.add (Nat.mul 4 r) a))).map λx=>p.getD x [])else []
def zAA (e:Nat):Nat->List (List Nat)
 | 0=>[[],[],[],[]]
 | r+1=>zBz e (r+1) (zAA e r)
def zCN (l:List Nat):Nat:=l.foldl (λn b=>Nat.add (Nat.mul n 256) b) 0
def zBH (e r:Nat)(row:List (List Nat)):List Nat:=[0,1,2,3].map λa=>bif okK e (Nat.add (Nat.mul 4 r) a)then zCN (row.getD a [])else Nat.add (Nat.mul 4 r) a
def zBm (e:Nat):Nat->Nat->List (List Nat)->List Nat
 | 0,_,_=>[]
 | f+1,r,row=>zBH e r row++zBm e f (Nat.succ r) (zBz e (Nat.succ r) row)
def ndN:List Nat->Bool
 | []=>true
 | x::l=>bif zAg x l then false else ndN l
def clN (e:Nat):Bool:=(List.range 60).all λk=>bif okK e k then(zdV (zaR e k)).all λp=>okK e (Nat.add (Nat.mul 4 (Nat.pred (Nat.div k 4))) p)else true
def zCO (e:Nat):Bool:=clN e&&ndN (zBm e 14 1 (zBz e 1 [[],[],[],[]]))
theorem zD9:∀{l:List Nat},ndN l=true->l.Nodup
 | [],_=>List.Pairwise.nil
 | x::l,h=>by
  unfold ndN at h
  cases q:zAg x l with
  | true=>rw[q]at h;cases h
  | false=>
   rw[q]at h
   rw[List.nodup_cons]
   exact⟨(λz=>by rw[(zBu _ _).2 z]at q;cases q),zD9 h⟩
theorem zEa {e:Nat}(h:clN e=true):∀k,okK e k=true->∀p∈zdV (zaR e k),okK e (4*(k / 4-1)+p)=true:=by
 intro k b p c;have:=List.all_eq_true.1 h k (List.mem_range.2 (zfF b).2.1);rw[b]at this;exact List.all_eq_true.1 (show(zdV (zaR e k)).all _=true from this) p c
theorem zEA {e r a:Nat}{p:List (List Nat)}(b:a<4)(c:okK e (4*r+a)=true):(zBz e r p).getD a []=hdN a r ((zdV (zaR e (4*r+a))).map λx=>p.getD x []):=by
 have d:∀x,x<4->(zBz e r p).getD x []=bif okK e (4*r+x)then hdN x r ((zdV (zaR e (4*r+x))).map λy=>p.getD y [])else []:=λx f=>by
  rcases(by omega:x=0\/x=1\/x=2\/x=3)with q|q|q|q<;>subst q<;>rfl
 rw[d a b,c]
 rfl
theorem zEp (s:List Nat)(k:Nat):(zCa s k).length=4*k:=by
 induction k with
 | zero=>rfl
 | succ k ih=>simp[zCa,ih];omega
theorem zDE {e:Nat}(j:clN e=true):∀(r a:Nat),a<4->okK e (4*r+a)=true->(Hd e (4*r+a)).d=zam ((zAA e r).getD a [])/\((zAA e r).getD a []).length=32
 | 0,a,ha,hk=>absurd (zfF hk).1 (by omega)
 | r+1,a,ha,hk=>by
  have g:=zEa j _ hk
  have d:(4*(r+1)+a) / 4-1=r:=by omega
  rw[d]at g
  have b:∀p∈zdV (zaR e (4*(r+1)+a)),(Hd e (4*r+p)).d=zam ((zAA e r).getD p [])/\((zAA e r).getD p []).length=32:=λp b=>zDE j r p (zA4.1 b).1 (g p b)
  have s:(zdV (zaR e (4*(r+1)+a))).map (λp=>(Hd e (4*r+p)).d)=((zdV (zaR e (4*(r+1)+a))).map λx=>(zAA e r).getD x []).map zam:=by
   rw[List.map_map];exact List.map_congr_left λp q=>(b p q).1
  obtain⟨P,c⟩:∃P,P=(zdV (zaR e (4*(r+1)+a))).map λx=>(zAA e r).getD x []:=⟨_,rfl⟩;have o:∀Q:List (List Nat),(∀x∈Q,x.length=32)->Q.flatten.length=32*Q.length:=λQ=>by
   induction Q with
   | nil=>intro _;rfl
   | cons x Q ih=>
    intro h;rw[List.flatten_cons,lP_,ih λy t=>h y (mC_ _ t),h x (by simp),List.length_cons];omega
  have m:P.flatten.length<=3000:=by
   rw[o P λx l=>by
    rw[c]at l;obtain⟨p,q,rfl⟩:=mM_.1 l;exact(b p q).2,c,List.length_map]
   have:=zDx (zaR e (4*(r+1)+a));omega
  have f:(zAA e (r+1)).getD a []=hdN a (r+1) P:=by rw[c];exact zEA ha hk
  refine⟨?_,by rw[f];exact zEp _ 8⟩;rw[zAW (zfF hk).1,d,s,<-c,f,show(4*(r+1)+a) % 4=a by omega,show(4*(r+1)+a) / 4=r+1 by omega];exact zEo m
theorem zEq {e r a:Nat}{b:List (List Nat)}(c:a<4)(d:okK e (4*r+a)=true):(zBH e r b)[a]? = some (zCN (b.getD a [])):=by
 have f:∀x,x<4->(zBH e r b)[x]? = some (bif okK e (4*r+x)then zCN (b.getD x [])else 4*r+x):=λx g=>by
  rcases(by omega:x=0\/x=1\/x=2\/x=3)with q|q|q|q<;>subst q<;>rfl
 rw[f a c,d]
 rfl
theorem zC7 {e:Nat}:∀(f r i a:Nat),i<f->a<4->okK e (4*(r+i)+a)=true->(zBm e f r (zAA e r))[4*i+a]? = some (zCN ((zAA e (r+i)).getD a []))
 | 0,_,_,_,h,_,_=>absurd h (by omega)
 | f+1,r,0,a,_,ha,hk=>by
  show(zBH e r (zAA e r)++_)[4*0+a]? = _
  rw[List.getElem?_append_left (by show 4*0+a<4;omega),show 4*0+a=a by omega]
  exact zEq ha hk
 | f+1,r,i+1,a,hi,ha,hk=>by
  have b:r+(i+1)=r+1+i:=by omega
  rw[b]at hk|-
  show(zBH e r (zAA e r)++zBm e f (r+1) (zAA e (r+1)))[4*(i+1)+a]? = _
  rw[List.getElem?_append_right (by show 4<=_;omega),show 4*(i+1)+a-(zBH e r (zAA e r)).length=4*i+a by show _-4=_;omega]
  exact zC7 f (r+1) i a (by omega) ha hk
theorem zCq:∀{l m:List Nat},zam l=zam m->l=m
 | [],[],_=>rfl
 | x::l,y::m,h=>by
  have c:(x:Int)=y:=(List.cons.inj h).1
  have b:=zCq (List.cons.inj h).2
  rw[b,show x=y by omega]
 | [],_::_,h=>by cases h
 | _::_,[],h=>by cases h
theorem zEB {e:Nat}(h:zCO e=true):EOk e:=by
 unfold zCO at h;rw[Bool.and_eq_true]at h;obtain⟨m,f⟩:=h;have f:=zD9 f;refine⟨zEa m,λk j c p o=>?_⟩;obtain⟨B,C,_⟩:=zfF c;obtain⟨D,E,_⟩:=zfF p;have s:∀k,okK e k=true->(Hd e k).d=zam ((zAA e (k / 4)).getD (k % 4) [])/\(zBm e 14 1 (zBz e 1 [[],[],[],[]]))[k-4]? = some (zCN ((zAA e (k / 4)).getD (k % 4) [])):=λk c=>by
  obtain⟨B,C,_⟩:=zfF c;obtain⟨r,A⟩:∃r,k / 4=r+1:=⟨k / 4-1,by omega⟩;have l:k=4*(r+1)+k % 4:=by omega
  have d:=c;rw[l]at d;have t:=(zDE m (r+1) (k % 4) (by omega) d).1;rw[<-l]at t;rw[A];refine⟨t,?_⟩;have n:=zC7 (e:=e) 14 1 r (k % 4) (by omega) (by omega) (by rw[show 1+r=r+1 by omega];exact d);rw[show 4*r+k % 4=k-4 by omega,show 1+r=r+1 by omega]at n;exact n
 obtain⟨u,b⟩:=s k c;obtain⟨y,g⟩:=s j p;rw[u,y]at o;rw[zCq o,<-g]at b;have z:k-4<(zBm e 14 1 (zBz e 1 [[],[],[],[]])).length:=by
  rcases lG_ (k-4) (zBm e 14 1 (zBz e 1 [[],[],[],[]])).length with q|q;exact q;rw[g]at b;rw[List.getElem?_eq_none q]at b;cases b
 have:=(List.getElem?_inj z f).1 b;omega
def eT:List Nat:=[0xffffffffffffffffeeeeeeef00000000,0xffffffffffffffffeeeeeee000000000,0xffffffffffffeeeeeeeeeeef00000000,0xffffffffffffffffeeeeeeeeeee000000000,0xffffffffffffffffeeeeeee0eee000000000,0xffffffffeeeeeeefeeefeeeeeee000000000,0xffffffffffffeeeeeeeeeeefeeeeeee000000000,0xffffffffffffffffddddddfd00000000,0xffffffffffffddfdddddddfd00000000,0xffffffffffffddddddddddfd00000000,0xffffffffffffffffdddddddddd0d00000000,0xffffffffffffddfddddddddddd0d00000000,0xffffffffffffdddddd0ddddddd0d00000000,0xffffffffddddddfdddfdddfddddddd0d00000000,0xffffffffffffffffbbbbbfbb00000000,0xffffffffffffbfbbbbbbbfbb00000000,0xffffffffffffbbbbbbbbbfbb00000000,0xffffffffffffffffbbbbbbbbb0bb00000000,0xffffffffffffbfbbbbbbbbbbb0bb00000000,0xffffffffffffbbbbb0bbbbbbb0bb00000000,0xffffffffbbbbbfbbbfbbbfbbbbbbb0bb00000000,0xffffffffffffffff7777f77700000000,0xfffffffffffff7777777f77700000000,0xfffffffffffff7777777077700000000,0xffffffffffffffff77777777077700000000,0xfffffffffffff77777777777077700000000,0xffffffffffff777707777777077700000000,0xffffffff7777f777f777f7777777077700000000]
def eB:List Nat:=[0xeee0eee0eee0eee0eee000000000,0xdd0ddd0ddd0ddd0ddd0d00000000,0xb0bbb0bbb0bbb0bbb0bb00000000,0x777077707770777077700000000]
def eOf (b i k:Nat):Nat:=bif Nat.beq b 4 then eT.getD (Nat.add (Nat.mul 7 i) (Nat.sub k 3)) 0 else eB.getD b 0
def ekN (j:Nat):Bool:=(List.range 7).all λk=>zCO (eT.getD (7*j+k) 0)
def gkN (b:Nat):Bool:=(List.range 4).all λi=>Nat.beq i b||(List.range 7).all λk=>Af.good (eOf b i (k+3)) b i (k+3)
theorem zEW:ekN 0=true:=by kernel_rfl
theorem zEX:ekN 1=true:=by kernel_rfl
theorem zEY:ekN 2=true:=by kernel_rfl
theorem zEZ:ekN 3=true:=by kernel_rfl
theorem zE0:((List.range 4).all λb=>zCO (eB.getD b 0))=true:=by kernel_rfl
theorem zE1:gkN 0=true:=by kernel_rfl
theorem zE2:gkN 1=true:=by kernel_rfl
theorem zE3:gkN 2=true:=by kernel_rfl
theorem zE4:gkN 3=true:=by kernel_rfl
theorem zE5:gkN 4=true:=by kernel_rfl
variable {k:Nat}
theorem zEC {b i:Nat}(r:b<=4)(l:i<4)(d:i≠b)(m:3<=k)(o:k<=9):EOk (eOf b i k)/\Af.good (eOf b i k) b i k=true:=by
 constructor
 refine zEB ?_;by_cases q:b=4;have e:eOf b i k=eT.getD (7*i+(k-3)) 0:=by unfold eOf;rw[zlJ.2 q];rfl
 rw[e];have c:∀j,ekN j=true->zCO (eT.getD (7*j+(k-3)) 0)=true:=λj h=>by
  unfold ekN at h;exact List.all_eq_true.1 h (k-3) (List.mem_range.2 (by omega))
 rcases(by omega:i=0\/i=1\/i=2\/i=3)with p|p|p|p<;>subst p;exact c 0 zEW;exact c 1 zEX;exact c 2 zEY;exact c 3 zEZ;have e:eOf b i k=eB.getD b 0:=by unfold eOf;rw[zAK q];rfl
 rw[e];exact List.all_eq_true.1 zE0 b (List.mem_range.2 (by omega));have c:∀b,gkN b=true->i≠b->Af.good (eOf b i k) b i k=true:=λb h d=>by
  unfold gkN at h;have f:=List.all_eq_true.1 h i (List.mem_range.2 l);rw[zAK d,Bool.false_or]at f;have g:=List.all_eq_true.1 f (k-3) (List.mem_range.2 (by omega));rw[show k-3+3=k by omega]at g;exact g
 rcases(by omega:b=0\/b=1\/b=2\/b=3\/b=4)with p|p|p|p|p<;>subst p;exact c 0 zE1 d;exact c 1 zE2 d;exact c 2 zE3 d;exact c 3 zE4 d;exact c 4 zE5 d
def zgp (i k:Nat):List AV:=[⟨7,i,0,⟨#[]⟩⟩]++zzw k
theorem zC9:∀k,∀a∈zzw k,a.e=0/\a.t.size<=4000
 | 0=>λa h=>by cases h
 | k+1=>zc9 (zC9 k) (zc9 (zCj 4 (nR_ _)) (λa b=>by
   rw[mS_.1 b]
   exact⟨zaL _ _ _ _ (by decide) (by decide) (by decide) (by decide) (λ_=>rfl) (λ_=>rfl) (λ_=>rfl),by show ByteArray.size ⟨#[]⟩<=4000;decide⟩))
theorem zED {i:Nat}(c:i<4)(k:Nat):∀a∈zgp i k,a.e=0/\a.t.size<=4000:=
 zc9 (λa b=>by
  rw[mS_.1 b]
  exact⟨zaL _ _ _ _ (by decide) (by omega) (by decide) (by decide) (λh=>by cases h) (λ_=>rfl) (λ_=>rfl),by show ByteArray.size ⟨#[]⟩<=4000;decide⟩) (zC9 k)
theorem zCQ:∀k,(zzw k).length=9*k
 | 0=>rfl
 | k+1=>by rw[zzw,lP_,zCQ k];show 9*k+9=_;omega
theorem zCr:∀R,zdc R=zhd 4++zzw R
 | 0=>(List.append_nil _).symm
 | R+1=>by
  show zdc R++zfg 4++_=zhd 4++(zzw R++zBL)
  rw[zCr R,List.append_assoc,List.append_assoc]
  rfl
theorem zEE {b i:Nat}{z:Int}(g:BZ b z)(y:b<=4)(o:i<4)(p:i≠b)(t:3<=k)(u:k<=9) :
  ∃e A B,FR e b z ((Fl.z z).run ((zgp i k).map AV.ac)) A/\zDe i A=true/\FR e b z ((Fl.z z).run ((zgp i k++zdc 16).map AV.ac)) B/\zDf b i B=true:=by
 obtain⟨l,f⟩:=zEC y o p t u;generalize eOf b i k=e at l f;unfold Af.good at f;rw[Bool.and_eq_true]at f;obtain⟨c,d⟩:=f;have C:((Af.z i).rnds e b k).ok=true:=by
  unfold zDe at c;simp only[Bool.and_eq_true]at c;exact c.1.1
 have D:((((Af.z i).rnds e b k).starts b).rnds e b 16).ok=true:=by
  unfold zDf at d;simp only[Bool.and_eq_true]at d;exact d.1.1
 have s:=FR.z (e:=e) g o p;have j:=s.rnds l g k C;have q:(Fl.z z).run ((zgp i k).map AV.ac)=((Fl.z z).run [⟨7,i,0,⟨#[]⟩⟩]).run ((zzw k).map AV.ac):=by
  unfold zgp;rw[List.map_append,Fl.run_append]
  rfl
 rw[<-q]at j;have m:=(j.starts g).rnds l g 16 D;have r:(Fl.z z).run ((zgp i k++zdc 16).map AV.ac)=(((Fl.z z).run ((zgp i k).map AV.ac)).run ((zhd 4).map AV.ac)).run ((zzw 16).map AV.ac):=by
  rw[zCr,List.map_append,Fl.run_append,List.map_append,Fl.run_append]
 rw[<-r]at m;exact⟨e,_,_,j,c,m,d⟩
theorem FR.view {e b:Nat}{z:Int}{f:Fl}{A:Af}(m:BZ b z)(h:FR e b z f A){i:Nat}(d:i<4)(g:i≠b)(j:(A.node i).next<=14):(f.view i).up=(A.node i).up/\(f.view i).rd=((A.node i).next:Int):=by
 have c:=h.fn.nd i d g;have l:f.view i=_:=iN_ (by rw[h.fn.re.bad];exact λp=>g ((m.is i d).1 p));rw[l];exact⟨c.up,c.dag.next j⟩
theorem zCS {b i:Nat}{z:Int}(g:BZ b z)(M:b<=4)(c:i<4)(f:i≠b)(J:3<=k)(L:k<=9){x o:Om}(R:x.v=((Fl.z z).run ((zgp i k).map AV.ac)).told)(E:o.v=((Fl.z z).run ((zgp i k++zdc 16).map AV.ac)).told) :
  (x.y i).up=false/\(x.y i).rd=1/\3<(o.y i).rd/\(o.y i).rd<=14/\∀j,j<4->0<=(o.y j).rd/\(o.y j).rd<=(o.y i).rd+1:=by
 obtain⟨e,A,B,I,s,u,t⟩:=zEE g M c f J L;unfold zDe at s;unfold zDf at t;simp only[Bool.and_eq_true]at s t;obtain⟨⟨_,l⟩,r⟩:=s;obtain⟨⟨_,y⟩,G⟩:=t;have r:=zlJ.1 r;have l:(A.node i).up=false:=by
  cases q:(A.node i).up with
  | false=>rfl
  | true=>rw[q]at l;cases l
 have y:3<(B.node i).next:=zl4.1 y;have p:∀j,j<4->j≠b->(B.node j).next<=14/\(B.node j).next<=(B.node i).next+1:=λj d N=>by
  have:=List.all_eq_true.1 G j (List.mem_range.2 d);rw[zAK N,Bool.false_or,Bool.and_eq_true]at this;exact⟨zl4.1 this.1,zl4.1 this.2⟩
 obtain⟨Y,Z⟩:=I.view g c f (by omega);obtain⟨_,U⟩:=u.view g c f (p i c f).1;have F:=zb0 R i c;have X:=zb0 E i c;have C:(x.y i).up=_:=cA_ Vw.up F;have D:(x.y i).rd=_:=cA_ Vw.rd F;have H:(o.y i).rd=_:=cA_ Vw.rd X;rw[Y,l]at C;rw[Z,r]at D;rw[U]at H;have k0:=p i c f;refine⟨C,D,by omega,by omega,λj d=>?_⟩;have V:=zb0 E j d;have m:(o.y j).rd=_:=cA_ Vw.rd V;by_cases q:j=b;have O:((Fl.z z).run ((zgp i k++zdc 16).map AV.ac)).view j=Vw.z:=iP_ (by rw[u.fn.re.bad];exact(g.is j d).2 q);rw[O]at m;have m:(o.y j).rd=0:=m;omega;obtain⟨_,T⟩:=u.view g d q (p j d q).1;rw[T]at m;have:=(p j d q).2;omega
theorem zD3 (i k:Nat):zgp i (k+1)=zgp i k++zfg 4++[⟨10,0,0,⟨#[]⟩⟩]:=by
 show [_]++(zzw k++(zfg 4++[_]))=[_]++zzw k++zfg 4++[_];simp only[List.append_assoc]
theorem zDa (i k:Nat):(zgp i k).length=1+9*k:=by
 unfold zgp;rw[lP_,zCQ]
 rfl
theorem zEb {b:Int}(c:-1<=b/\b<=3){i:Nat}(f:i<4)(h:(i:Int)≠b):∃m,m<=4/\i≠m/\BZ m b:=by
 by_cases q:b=-1;exact⟨4,by omega,by omega,c,λj d=>⟨λp=>by omega,λp=>by omega⟩⟩;exact⟨b.toNat,by omega,by omega,c,λj d=>⟨λp=>by omega,λp=>by omega⟩⟩
theorem topBehind_walk (n:Int)(y:Int)(t:Int)(w:World)(n1:-9223372036854775808<=n)(n2:n<=9223372036854775807)(bq:-9223372036854775808<=y)(br:y<=9223372036854775807)(bo:-9223372036854775808<=t)(bp:t<=9223372036854775807)(hT:zcw w/\za2 w) :
  Calls prog 3 #[I_ n,I_ y,I_ t] w λe w'=>e=.returned (.bool true)/\B_ w w':=by
 have U:Hid (∀W:World,B_ w W->zcw W/\za2 W):=λW hW=>⟨hT.1.below hW hT.1.lt,hT.2.below hW⟩;clear hT;obtain⟨bF,bG⟩:=zW n 5 (by decide);have aj:=zg9 n w n1 n2;obtain⟨b,a6⟩:∃b,b=pk n 5-1:=⟨_,rfl⟩;have a7:-1<=b/\b<=3:=by omega
 rw[<-a6]at aj;clear a6 bF bG n1 n2;obtain⟨bt,bu⟩:=zW y 4 (by decide);obtain⟨I,hI⟩:∃k:Nat,pk y 4=k:=⟨(pk y 4).toNat,by omega⟩;have HI:Hid (∀W:World,Calls prog 5 #[I_ y,I_ 4] W λe w'=>e=.returned (I_ (I:Int))/\W=w'):=λW=>by rw[<-hI];exact zbI y 4 W bq br (by decide) (by decide)
 have B:I<4:=by omega
 clear hI bt bu bq br;obtain⟨bI,bJ⟩:=zW t 7 (by decide);obtain⟨z,hz⟩:∃k:Nat,pk t 7=k:=⟨(pk t 7).toNat,by omega⟩;have Hz:Hid (∀W:World,Calls prog 5 #[I_ t,I_ 7] W λe w'=>e=.returned (I_ (z:Int))/\W=w'):=λW=>by rw[<-hz];exact zbI t 7 W bo bp (by decide) (by decide)
 have zB:z<7:=by omega
 clear hz bI bJ bo bp;obtain⟨k,hk⟩:∃k:Nat,k=3+z:=⟨_,rfl⟩;have bB:IntKind.i64.wrap (3+(z:Int))=(k:Int):=by rw[IntKind.wrap_i64];omega
 have ba:3<=k/\k<=9:=by omega
 clear hk;go_in;go_wp2_with fail
 refine aj.mono ?_;rintro _ w0⟨rfl,rfl⟩;dsimp only;clear aj;go_wp2_with fail
 refine(HI.out _).mono ?_;rintro _ w0⟨rfl,rfl⟩;dsimp only;go_wp2_with fail
 refine(Hz.out _).mono ?_;rintro _ w0⟨rfl,rfl⟩;dsimp only;go_upto_if 28 with fail
 go_cut [7] (λu wx=>∃c:Int,u=I_ c/\Hid (∃m,m<=4/\I≠m/\BZ m c)/\w=wx)
 case first=>
  by_cases hib:(I:Int)=b
  .have e1:((I:Int) == b)=true:=beq_iff_eq.2 hib;have A:Hid (∃m,m<=4/\I≠m/\BZ m (-1)):=zEb (by decide) B (by omega);clear hib;go_wp2_with fail
   go_meet
   case rel=>exact⟨-1,rfl,A,rfl⟩
  have e1:((I:Int) == b)=false:=beq_eq_false_iff_ne.2 hib;have A:Hid (∃m,m<=4/\I≠m/\BZ m b):=zEb a7 B hib;clear hib;go_wp2_with fail
  go_meet
  case rel=>exact⟨b,rfl,A,rfl⟩
 case rest=>
  obtain⟨c,rfl,A,hw⟩:=hcut;subst hw;apply_assumption;have a9:-1<=c/\c<=3:=by obtain⟨m,_,_,q⟩:=A.out;exact q.rg
  clear a7;have ai:Hid (∀r,∀a∈zgp I r,a.e=0/\a.t.size<=4000):=zED B;have D:(w.alloc (.cells #[I_ 7,I_ I,I_ 0,.string ⟨#[]⟩] 26)).heap[w.heap.size]? = some (.cells (⟨7,I,0,⟨#[]⟩⟩:AV).cs.toArray 26 (0,0)):=hN_ _ _;go_wp2_with (at_builtin;refine zkz rfl _ _ rfl w.heap.size _ 0 [] rfl (oN_ _ _ _ _) w.heap.size ⟨7,I,0,⟨#[]⟩⟩ rfl D (by omega) (by simp) ?_)
  intro v1 w1 be ar;have a5:B_ w w1:=((bR_ _ _).alloc (nR_ _) _).trans (ar.below (by simp) (λq e=>by cases e));clear D ar;go_wp2_with fail
  go_loopw [11,10] (λj v wr=>∃r:Nat,r<=k/\j=I_ r/\B_ w wr/\wr.ownsRow w.heap.size 26 4 v (1+9*r) (avs (zgp I r))) (λj _ _=>k-(intOf j).toNat)
  case atStart=>exact⟨0,nZ_ _,rfl,a5,be⟩
  case round=>
   clear be a5;obtain⟨r,hr,rfl,d,f⟩:=hrel;by_cases hlt:r<k
   .have av:(r:Int)<k:=by omega
    go_wp2_with fail
    go_loopw [12,10] (λj v wx=>∃p:Nat,p<=4/\j=I_ p/\B_ w wx/\wx.ownsRow w.heap.size 26 4 v (1+9*r+2*p) (avs (zgp I r++zfg p))) (λj _ _=>4-(intOf j).toNat)
    case atStart=>exact⟨0,nZ_ _,rfl,d,by rw[zfg,List.append_nil];exact f⟩
    case round=>
     clear f d;obtain⟨p,hp,rfl,d,f⟩:=hrel;by_cases hlt4:p<4
     .have bC:(p:Int)<4:=by omega
      have D:(wr.alloc (.cells #[I_ 2,I_ p,I_ 0,.string ⟨#[]⟩,I_ 3,I_ p,I_ 0,.string ⟨#[]⟩] 26)).heap[wr.heap.size]? = some (.cells (avs [(⟨2,p,0,⟨#[]⟩⟩:AV),⟨3,p,0,⟨#[]⟩⟩]).toArray 26 (0,0)):=hN_ _ _;have bw:=zdw D (λa J=>zCj (p+1) hlt4 a (List.mem_append_right _ J));have F:Hid (zgp I r++zfg (p+1)=zgp I r++zfg p++[⟨2,p,0,⟨#[]⟩⟩,⟨3,p,0,⟨#[]⟩⟩]):=(List.append_assoc _ _ _).symm;generalize zgp I r++zfg p=l at f F;go_wp2_with (at_builtin;refine zfB rfl _ _ rfl w.heap.size _ (1+9*r+2*p) l rfl (f.alloc _) (some (p_ wr.heap.size 0)) 2 2 [(⟨2,p,0,⟨#[]⟩⟩:AV),⟨3,p,0,⟨#[]⟩⟩] rfl rfl bw (λe=>by cases e) (by omega) (by have:=d.size;simp;omega) ?_)
      intro v' w2 ay ab;go_wp2_with fail
      go_roundw
      case rel=>
       refine⟨p+1,by omega,by go_num,d.trans ?_,by rw[F.out,show 1+9*r+2*(p+1)=1+9*r+2*p+2 by omega];exact ay⟩;exact((bR_ _ _).alloc d.size _).trans (ab.below (by have:=d.size;simp;omega) (λq e=>(f.lt q e).1))
      case measure=>simp[intOf];omega
     obtain rfl:p=4:=by omega
     have bC:¬((4:Nat):Int)<4:=by omega
     have D:(wr.alloc (.cells #[I_ 10,I_ 0,I_ 0,.string ⟨#[]⟩] 26)).heap[wr.heap.size]? = some (.cells (⟨10,0,0,⟨#[]⟩⟩:AV).cs.toArray 26 (0,0)):=hN_ _ _;have F:Hid (zgp I (r+1)=zgp I r++zfg 4++[⟨10,0,0,⟨#[]⟩⟩]):=zD3 I r;generalize zgp I r++zfg 4=l at f F;clear hlt4 hp;go_wp2_with (at_builtin;refine zkz rfl _ _ rfl w.heap.size _ (1+9*r+2*4) l rfl (f.alloc _) wr.heap.size ⟨10,0,0,⟨#[]⟩⟩ rfl D (by omega) (by have:=d.size;simp;omega) ?_)
     intro v' w2 ay ab;go_wp2_with fail
     go_roundw
     case rel=>
      refine⟨r+1,by omega,by go_num,d.trans ?_,by rw[F.out,show 1+9*(r+1)=1+9*r+2*4+1 by omega];exact ay⟩;exact((bR_ _ _).alloc d.size _).trans (ab.below (by have:=d.size;simp;omega) (λq e=>(f.lt q e).1))
     case measure=>simp[intOf];omega
   obtain rfl:r=k:=by omega
   have av:¬(r:Int)<r:=by omega
   clear hlt hr bB;rw[<-zDa I r]at f;obtain⟨la,lc,N,ac,bc⟩:=zbd f (ai.out r);subst N;have an:Hid _:=bc;obtain⟨l,L⟩:∃l,l=zgp I r:=⟨_,rfl⟩;have al:Hid (l=zgp I r):=L;have bN:l.length<=100:=by rw[L,zDa];omega
   have am:Hid (∀a∈l,a.e=0/\a.t.size<=4000):=by show ∀_,_;rw[L];exact ai.out r
   rw[<-L]at ac an|-;have aa:=d;clear L bc f ai d;have E:=zc4 c a9 l la _ lc wr rfl (by omega) ac (λa J=>(am.out a J).1) (U.out wr aa).1 (U.out wr aa).2;go_wp2_with fail
   refine E.mono ?_;rintro e ag⟨x,g,bh,bj,bE,d⟩;subst g;dsimp only;clear E;have aH:Hid _:=bj;clear bj;have aK:=zm aa d;have aT:=ac.below d;clear aa ac;clear d;refine kO_ ?A0 ?_;exact Obj.cells #[.slice x.na 4 x.nc,.slice x.ga x.gs.length x.gc,I_ x.aw,.slice x.ca x.cs.length x.cc] 31;have H:=zC ag ?A0;have af:=hN_ ag ?A0;go_upto_region 17 with fail
   generalize ag.alloc ?A0=bv at H af|-;generalize ag.heap.size=Bx at af|-;have aN:=zm aK H;have aZ:=bh.below H;have aU:=aT.below H;clear aK bh aT;clear H;go_wp2_with fail
   refine(zDG 16 (by omega) bv).mono ?_;rintro e bH⟨v,g,a8,d⟩;subst g;dsimp only;obtain⟨ka,kc,N,au,bb⟩:=zbd a8 (zBB 16);subst N;have T:Hid ((zdc 16).length=4+9*16/\∀a∈zdc 16,a.e=0/\a.t.size<=4000):=⟨zCk _,zBB _⟩;have aF:Hid _:=bb;clear a8 bb;have aJ:=zm aN d;have aV:=aZ.below d;have ap:=aU.below d;have bk:=zk d af;clear aN aZ aU af;clear d;have a4:=zcZ l (zdc 16) la _ lc ka _ kc bH rfl rfl ap au an.out aF.out (by have:=T.out.1;omega);go_wp2_with fail
   refine a4.mono ?_;rintro e aA⟨v,g,f,d⟩;subst g;dsimp only;clear a4;have Y:Hid _:=zc9 am.out T.out.2;obtain⟨m,ad⟩:∃z9,z9=l++zdc 16:=⟨_,rfl⟩;rw[<-ad]at f Y;have ao:Hid (m.length=l.length+(4+9*16)/\m=l++zdc 16):=⟨by rw[ad,lP_,T.out.1],ad⟩;clear ad;obtain⟨ma,mc,N,aw,bd⟩:=zbd f Y.out;subst N;have bs:Hid _:=bd;have bO:m.length<=300:=by have:=ao.out.1;omega
   clear f bd;have Z:=zm aJ d;have aW:=aV.below d;have aO:=ap.below d;have aP:=au.below d;have bl:=zk d bk;clear aJ aV ap au bk;clear d;have E:=zc4 c a9 m ma _ mc aA rfl (by omega) aw (λa J=>(Y.out a J).1) (U.out aA Z).1 (U.out aA Z).2;go_wp2_with fail
   refine E.mono ?_;rintro e ah⟨o,g,bf,bg,bD,d⟩;subst g;dsimp only;clear E;have aG:Hid _:=bg;clear bg;have aL:=zm Z d;have aX:=aW.below d;have aQ:=aO.below d;have aR:=aP.below d;have aS:=aw.below d;have bm:=zk d bl;clear Z aW aO aP aw bl;clear d;refine kO_ ?B0 ?_;exact Obj.cells #[.slice o.na 4 o.nc,.slice o.ga o.gs.length o.gc,I_ o.aw,.slice o.ca o.cs.length o.cc] 31;have s:=zC ah ?B0;have ae:=hN_ ah ?B0;go_upto_region 18 with fail
   generalize ah.alloc ?B0=C at s ae|-;generalize ah.heap.size=Bo at ae|-;have aM:=zm aL s;have aY:=aX.below s;have aq:=bf.below s;have bx:=aQ.below s;have bz:=aR.below s;have bA:=aS.below s;have bn:=zk s bm;clear aL aX bf aQ aR aS bm;clear s;obtain⟨HU,aB,aE,aD,X⟩:(x.y I).up=false/\(x.y I).rd=1/\3<(o.y I).rd/\(o.y I).rd<=14/\∀j,j<4->0<=(o.y j).rd/\(o.y j).rd<=(o.y I).rd+1:=by
    obtain⟨m9,a1,a2,a3⟩:=A.out;exact zCS a3 a1 B a2 ba.1 ba.2 (by rw[<-al.out];exact aH.out) (by rw[<-al.out,<-ao.out.2];exact aG.out)
   have X:Hid _:=X;clear A al am an Y ao bs aH aG T aF;obtain⟨xb,bi,az⟩:=aY.row B;obtain⟨nb,ax,-⟩:=aq.row (i:=0) (by decide);have ak:Hid (∀i,i<4->C.rangeAt nb (i*6) (o.y i).cs):=by
    show ∀_,_;intro i hi;obtain⟨b9,e9,h9⟩:=aq.row hi;rw[ax]at e9;cases e9;exact h9
   have s0:C_ C Bx 0 (.slice (some (p_ xb 0)) 4 x.nc):=by rw[<-bi];exact zb bn 0 _ rfl
   have s1:C_ C Bo 0 (.slice (some (p_ nb 0)) 4 o.nc):=by rw[<-ax];exact zb ae 0 _ rfl
   have p0:C_ C xb (I*6) (.bool false):=by have:=az 0 _ rfl;rw[HU]at this;exact this
   have p1:C_ C xb (I*6+1) (I_ 1):=by have:=az 1 _ rfl;rw[aB]at this;exact this
   have bK:(I:Int)<4:=by omega
   have aI:=aM;clear HU aB az bi ax bE bD aM bx bz bA aY aq ae bn;obtain⟨W0,a0⟩:∃V,V=C:=⟨_,rfl⟩;rw[<-a0]at s0 s1 p0 p1 aI ak|-;clear a0;obtain⟨R,hR⟩:∃R,R=(o.y I).rd:=⟨_,rfl⟩;rw[<-hR]at aE aD X;have aC:Hid (R=(o.y I).rd):=hR;clear hR;go_wp2_with fail
   go_loopw [17,18] (λu v wr=>∃(m:Int) (i:Nat),u=I_ m/\v=I_ i/\i<=4/\Hid (0<=m/\m<=R+1/\(I<i->R<=m))/\W0=wr) (λ_ v _=>4-(intOf v).toNat)
   case atStart=>exact⟨0,0,rfl,rfl,by omega,⟨by omega,by omega,λq=>by omega⟩,rfl⟩
   case round=>
    obtain⟨m,i,rfl,rfl,hi,hm,hw⟩:=hrel;subst hw;by_cases hlt:i<4
    .have av:(i:Int)<4:=by omega
     obtain⟨S,hS⟩:∃S,S=(o.y i).rd:=⟨_,rfl⟩;have c1:C_ W0 nb (i*6+1) (I_ S):=by have:=ak.out i hlt 1 _ rfl;rw[hS];exact this
     have HN:Hid (∀M,(M=m/\S<=m\/M=S/\m<=S)->0<=M/\M<=R+1/\(I<i+1->R<=M)):=by
      show ∀_,_;intro M hM;obtain⟨m1,m2,O⟩:=hm.out;obtain⟨t1,t2⟩:=X.out i hlt;refine⟨by omega,by omega,λq=>?_⟩;by_cases p:I=i;have:S=R:=by rw[hS,aC.out,p]
      omega;have:=O (by omega);omega
     clear hS hm;rcases Int.lt_trichotomy m S with h|h|h
     .have G:m<=S:=by omega
      have h2:¬S<=m:=by omega
      have h3:¬S<m:=by omega
      go_wp2_with fail
      go_roundw
      case rel=>exact⟨S,i+1,by go_num,by go_num,by omega,HN.out S (.inr ⟨rfl,G⟩),trivial⟩
      case measure=>simp[intOf];omega
     .subst h;have G:m<=m:=Int.le_refl _;have h3:¬m<m:=by omega
      go_wp2_with fail
      go_roundw
      case rel=>exact⟨m,i+1,by go_num,by go_num,by omega,HN.out m (.inl ⟨rfl,G⟩),trivial⟩
      case measure=>simp[intOf];omega
     have G:S<=m:=by omega
     have h2:¬m<=S:=by omega
     have h3:¬m<S:=by omega
     go_wp2_with fail
     go_roundw
     case rel=>exact⟨m,i+1,by go_num,by go_num,by omega,HN.out m (.inl ⟨rfl,G⟩),trivial⟩
     case measure=>simp[intOf];omega
    obtain rfl:i=4:=by omega
    obtain⟨m1,m2,O⟩:=hm.out;have O:=O (by omega);have av:¬((4:Nat):Int)<4:=by omega
    have c1:C_ W0 nb (I*6+1) (I_ R):=by have:=ak.out I B 1 _ rfl;rw[aC.out];exact this
    have bP:IntKind.i64.wrap (R+1)=R+1:=by rw[IntKind.wrap_i64];omega
    have ar:m<=R+1:=m2;have ab:(3:Int)<m:=by omega
    have bL:¬R+1<m:=by omega
    have bM:¬m<=3:=by omega
    clear hm hi hlt m1 m2 O aE aD;go_wp2_with fail
    go_ret;exact⟨rfl,aI⟩
end Go.Proofs.YtpnpikpmdfipfaaGreatDoor
