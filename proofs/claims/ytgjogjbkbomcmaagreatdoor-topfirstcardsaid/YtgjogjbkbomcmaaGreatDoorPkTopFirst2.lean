import Derived.Test.YtgjogjbkbomcmaaGreatDoorPkTopFirst1
set_option maxRecDepth 100000
set_option maxHeartbeats 4000000
namespace Go.Proofs.YtgjogjbkbomcmaaGreatDoor
open Go.RowKit _root_.Go.Proofs.Tryz
theorem topFirst_walk (n:Int)(t:Int)(w:World)(n1:-9223372036854775808<=n)(n2:n<=9223372036854775807)(ay:-9223372036854775808<=t)(az:t<=9223372036854775807)(N:zcw w/\za2 w) :
  Calls prog 3 #[I_ n,I_ t] w λe w'=>e=.returned (.bool true)/\B_ w w':=by
 have I:Hid (∀W:World,B_ w W->zcw W/\za2 W):=λW hW=>⟨N.1.below hW N.1.lt,N.2.below hW⟩;clear N;obtain⟨aO,aP⟩:=zW n 5 (by decide);have ab:=zg9 n w n1 n2;obtain⟨b,ap⟩:∃b,b=pk n 5-1:=⟨_,rfl⟩;have aq:-1<=b/\b<=3:=by omega
 rw[<-ap]at ab;clear ap aO aP n1 n2;obtain⟨aQ,aR⟩:=zW t 12 (by decide);obtain⟨z,hz⟩:∃k:Nat,pk t 12=k:=⟨(pk t 12).toNat,by omega⟩;have Hz:Hid (∀W:World,Calls prog 5 #[I_ t,I_ 12] W λe w'=>e=.returned (I_ (z:Int))/\W=w'):=λW=>by rw[<-hz];exact zbI t 12 W ay az (by decide) (by decide)
 have zB:z<12:=by omega
 clear hz aQ aR ay az;obtain⟨k,hk⟩:∃k:Nat,k=6+z:=⟨_,rfl⟩;have aI:IntKind.i64.wrap (6+(z:Int))=(k:Int):=by rw[IntKind.wrap_i64];omega
 have au:6<=k/\k<=17:=by omega
 have aS:Hid (6+(z:Int)=(k:Int)):=by show _=_;omega
 clear hk;go_in;go_wp2_with fail
 refine ab.mono ?_;rintro _ w0⟨rfl,rfl⟩;dsimp only;clear ab;go_wp2_with fail
 refine(Hz.out _).mono ?_;rintro _ w0⟨rfl,rfl⟩;dsimp only;go_wp2_with fail
 refine(zCz k (by omega) w).mono ?_;rintro e w2⟨v,f,ar,r⟩;subst f;dsimp only;obtain⟨la,lc,hv,T,aJ⟩:=zbd ar (zBB k);subst hv;have J:Hid _:=zBB k;obtain⟨l,O⟩:∃l,l=zdc k:=⟨_,rfl⟩;have aj:Hid (l=zdc k):=O;have aX:l.length<=200:=by rw[O,zCk];omega
 rw[<-O]at T J|-;clear O ar aJ;have M:=r;clear r;have ag:=zc4 b aq l la _ lc w2 rfl (by omega) T (λa ha=>(J.out a ha).1) (I.out w2 M).1 (I.out w2 M).2;go_wp2_with fail
 refine ag.mono ?_;rintro e aa⟨o,f,av,aw,aN,r⟩;subst f;dsimp only;clear ag;have ac:Hid _:=aw;clear aw;have ak:=zm M r;have am:=T.below r;clear M T;clear r;refine kO_ ?A0 ?_;exact Obj.cells #[.slice o.na 4 o.nc,.slice o.ga o.gs.length o.gc,I_ o.aw,.slice o.ca o.cs.length o.cc] 28;have D:=zC aa ?A0;have G:=hN_ aa ?A0;go_upto_region 4 with fail
 generalize aa.alloc ?A0=L at D G|-;generalize aa.heap.size=Bo at G|-;have al:=zm ak D;have E:=av.below D;have aE:=am.below D;clear ak av am;clear D;obtain⟨R,hR⟩:∃R:Nat,R=k / 3+1:=⟨_,rfl⟩;have aV:3<=R/\R<=6:=by omega
 have HF:Hid (∀i:Nat,i<4->(i:Int)≠b->(o.y i).rd=(R:Int)/\3<=(dgF (zI (o.y i).ls) 1).length):=by
  show ∀_,_;intro i d r;obtain⟨a1,a2⟩:=zB7 aq au.1 au.2 (by rw[<-aj.out];exact ac.out) i d r;exact⟨by rw[a1];omega,a2⟩
 clear hR;have H1:Hid _:=zB8 ac.out J.out;clear aj J ac aI;obtain⟨F,ae,-⟩:=E.row (i:=0) (by decide);have H:Hid (∀i,i<4->L.rangeAt F (i*6) (o.y i).cs):=by
  show ∀_,_;intro i d;obtain⟨b9,e9,h9⟩:=E.row d;rw[ae]at e9;cases e9;exact h9
 have B:C_ L Bo 0 (.slice (some (p_ F 0)) 4 o.nc):=by rw[<-ae];exact zb G 0 _ rfl
 have ah:Hid (∀i,i<4->zfX L (o.y i)):=λi d=>E.vm i d;have ai:Hid (∀i,i<4->zlk (o.y i).v):=λi d=>aN.vw i d;have y:=al;have an:=E;have Y:=G;clear al aE E G;clear ae;obtain⟨A,ao⟩:∃V,V=L:=⟨_,rfl⟩;rw[<-ao]at B y an Y H ah|-;clear ao;go_wp2_with fail
 have aB:Hid (∀(V:World) (i:Nat),i<4->(i:Int)≠b->B_ A V->Calls prog 8 #[.agg #[.slice (o.y i).ca (o.y i).ls.length (o.y i).cc],I_ 1] V λe w'=>∃(U:Q_) (X:Nat) (ms:List zi),e=.returned (.tuple #[.slice U ms.length X,I_ 0])/\3<=ms.length/\B_ V w'):=by
  show ∀_,_;intro V i d c hV;have ax:=ai.out i d;have aH:(o.y i).ls.length<=400:=by have:=zCP ax.dag;simpa[Vm.v,zI]using this
  refine(zBc (o.y i).ls (o.y i).ca _ (o.y i).cc 1 V rfl (zC8 ((ah.out i d).below hV) aH) (I.out V (y.trans (hV.mono y.size))).2).mono (λe w2 h=>?_);rcases h.out with⟨q,_⟩|⟨_,U,X,ms,f,hl,_⟩;rw[show zbV (zI (o.y i).ls)=0 from ax.dag]at q;cases q;refine⟨U,X,ms,f,?_,h.below⟩;have h3:=(HF.out i d c).2;rw[<-hl]at h3
  simpa[zT]using h3
 go_loopw [9,10] (λu v wr=>∃(m:Int) (i:Nat),u=I_ m/\v=I_ i/\i<=4/\Hid (m=R\/(m=1048576/\∀j:Nat,j<i->(j:Int)=b))/\A=wr) (λ_ v _=>4-(intOf v).toNat)
 case atStart=>exact⟨1048576,0,rfl,rfl,by omega,.inr ⟨rfl,λj hj=>by omega⟩,rfl⟩
 case round=>
  obtain⟨m,i,rfl,rfl,d,s,hw⟩:=hrel;subst hw;by_cases hlt:i<4
  .have aL:(i:Int)<4:=by omega
   by_cases c:(i:Int)=b
   .have HI:Hid (i=b):=c;have C:((i:Int) == b)=true:=beq_iff_eq.2 c;have e2:((i:Int) != b)=false:=by rw[bne,C];rfl
    clear c;go_wp2_with fail
    go_roundw
    case rel=>exact⟨m,i+1,rfl,by go_num,by omega,s.out.imp id (λq=>⟨q.1,λj hj=>by
      by_cases p:j=i
      .rw[p];exact HI.out
      .exact q.2 j (by omega)⟩),trivial⟩
    case measure=>simp[intOf];omega
   have C:((i:Int) == b)=false:=beq_eq_false_iff_ne.2 c;have e2:((i:Int) != b)=true:=by rw[bne,C];rfl
   have c1:C_ A F (i*6+1) (I_ R):=by have:=H.out i hlt 1 _ rfl;rw[(HF.out i hlt c).1]at this;exact this
   clear c;rcases s.out with s|⟨s,_⟩;subst s;have aK:(R:Int)<=R:=Int.le_refl _
   rotate_left
   subst s;have aK:¬(1048576:Int)<=R:=by omega
   rotate_left
   all_goals
    go_wp2_with fail
    go_roundw
    case rel=>exact⟨R,i+1,by go_num,by go_num,by omega,.inl rfl,trivial⟩
    case measure=>simp[intOf];omega
  obtain rfl:i=4:=by omega
  have aM:m=R:=by
   rcases s.out with q|⟨_,q⟩;exact q;have Y:=q 0 (by omega);have q1:=q 1 (by omega);omega
  subst aM;have aL:¬((4:Nat):Int)<4:=by omega
  have h2:¬(R:Int)<2:=by omega
  have aZ:IntKind.i64.wrap ((R:Int)+1)=(R:Int)+1:=by rw[IntKind.wrap_i64];omega
  have aW:¬(R:Int)+1<R:=by omega
  clear s d hlt;go_wp2_with fail
  go_loopw [11] (λu wr=>∃i:Nat,i<=4/\u=I_ i/\B_ A wr) (λu _=>4-(intOf u).toNat)
  case atStart=>exact⟨0,by omega,rfl,bR_ _ _⟩
  case round=>
   obtain⟨i,d,rfl,g⟩:=hrel;by_cases hlt:i<4
   .have aY:(i:Int)<4:=by omega
    by_cases c:(i:Int)=b
    .have C:((i:Int) == b)=true:=beq_iff_eq.2 c;clear c;go_wp2_with fail
     go_roundw
     case rel=>exact⟨i+1,by omega,by go_num,g⟩
     case measure=>simp[intOf];omega
    have C:((i:Int) == b)=false:=beq_eq_false_iff_ne.2 c;have c1:C_ A F (i*6+1) (I_ R):=by have:=H.out i hlt 1 _ rfl;rw[(HF.out i hlt c).1]at this;exact this
    have c2:C_ A F (i*6+2) (.slice (o.y i).ca (o.y i).ls.length (o.y i).cc):=H.out i hlt 2 _ rfl;have aA:=(g.cell (bL_ B)).trans B;have aC:=(g.cell (bL_ c2)).trans c2;have HD:=aB.out wr i hlt c g;clear c c2;go_wp2_with fail
    refine HD.mono ?_;rintro e w3⟨U,X,ms,f,h3,aF⟩;subst f;dsimp only;have aU:¬(ms.length:Int)<3:=by omega
    have ad:=zm g aF;clear aA aC HD;have aA:=(ad.cell (bL_ B)).trans B;have aT:=(ad.cell (bL_ c1)).trans c1;go_wp2_with fail
    go_roundw
    case rel=>exact⟨i+1,by omega,by go_num,ad⟩
    case measure=>simp[intOf];omega
   obtain rfl:i=4:=by omega
   have af:=zC1 o wr (an.below g) ai.out H1.out (I.out wr (y.trans (g.mono y.size))).2;have Z:=zk g Y;clear B Y;have f0:=zb Z 0 (.slice o.na 4 o.nc) rfl;have f1:=zb Z 1 (.slice o.ga o.gs.length o.gc) rfl;have f2:=zb Z 2 (I_ o.aw) rfl;have f3:=zb Z 3 (.slice o.ca o.cs.length o.cc) rfl;go_wp2_with fail
   refine af.mono ?_;rintro _ w9⟨rfl,aG⟩;dsimp only;clear af f0 f1 f2 f3;have aD:=y.trans ((g.trans (aG.mono g.size)).mono y.size);go_wp2_with fail
   go_ret;exact⟨rfl,aD⟩
end Go.Proofs.YtgjogjbkbomcmaaGreatDoor
