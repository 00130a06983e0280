import Derived.Test.YtpnpikpmdfipfaaGreatDoorPk13
set_option maxRecDepth 100000
set_option maxHeartbeats 4000000
namespace Go.Proofs.YtpnpikpmdfipfaaGreatDoor
open Go.RowKit Tryz
theorem zi8 (b ys:Z_)(j l:Q_)(n m f g:Nat)(w:World)(p:n=b.length)(o:m=ys.length)(E:zbu w j f b)(F:zbu w l g ys)(M:(n+m)*16<=140737488355328) :
  Calls prog 40 #[.slice j n f,.slice l m g] w λe w'=>∃v,e=.returned v/\w'.ownsRow w.heap.size 9 1 v (n+m) (sv (b++ys))/\B_ w w':=by
 obtain⟨i,D,G,H,I⟩:=info_parts zkf;have y:Hid (n=b.length):=p;have u:Hid (m=ys.length):=o;clear p o;have N:(n:Int)+m<=9223372036854775807:=by omega
 go_in;go_wp2_with (first
  | (at_make;refine wpList_make_own _ rfl _ _ 39 rfl w.heap.size 9 i (.string ByteArray.empty) 1 underlying39 D G H .i64 .i64 _ (n+m) rfl rfl (by go_num) (by rw[I];omega) (by unfold maxLen;omega) (nR_ _) ?_;intro O r A;have c:=zgP A)
  | (at_builtin;refine zfd rfl _ _ rfl w.heap.size J (0+n) b rfl s l m g ys rfl u.out (F.below d) (by omega) d.size ?_;intro L R t C;have z:=Below.grown d C d.size (λq e=>(s.lt q e).1))
  | (at_builtin;refine zfd rfl _ _ rfl w.heap.size _ 0 [] rfl r j n f b rfl y.out (E.below c) (by omega) c.size ?_;intro J w2 s B;have d:=Below.grown c B c.size (λq e=>(r.lt q e).1)))
 go_ret;refine⟨L,rfl,?_,z⟩;rw[zA_]at t;exact t
theorem zo7 (nx:Int)(B:Q_)(n l:Nat)(ss:Z_)(au:Int)(w:World)(hn:n=ss.length)(hs:zbu w B l ss) :
  Calls prog 67 #[.agg #[I_ nx,.slice B n l],I_ au] w λe w'=>zfN w w' e nx ss au:=by
 subst hn;refine kW_ ?A0 ?_;exact(w.alloc (.cells #[I_ nx,.slice B ss.length l] 55)).alloc (.cells #[I_ 0,O_] 55);refine kO_ ?B0 ?_;exact Obj.cells #[I_ 0,I_ 0,O_] 86;have hA:B_ w ((?A0).alloc ?B0):=(((bR_ _ _).alloc (nR_ _) _).alloc (by simp) _).alloc (by simp;omega) _;refine kA_ ?C0 ?_;exact #[I_ nx,.slice B ss.length l];refine kA_ ?D0 ?_;exact #[I_ 0,I_ 0,O_];have r0:=zR (o:=.cells ?D0 86) (hX_ w (.cells ?C0 55) (.cells #[I_ 0,O_] 55));have r1:=zR (o:=.cells ?D0 86) (hY_ w (.cells ?C0 55) (.cells #[I_ 0,O_] 55));have r2:=zco ?A0 ?B0 (w.heap.size+1+1) (by simp);have aT:=hs.le;have aY:=hs.max;have HC:Hid (∀W:World,B_ w W->Calls prog 38 #[.agg ?C0] W λe w'=>e=.returned (I_ (zaO nx ss))/\B_ W w'):=by
  show ∀_,_;intro W hW;exact zjr nx B _ l ss W rfl (hs.below hW)
 have HS:Hid (∀W:World,Calls prog 119 #[.agg ?C0,I_ au] W λe w'=>e=.returned (I_ (zcV nx ss au))/\B_ W w'):=by
  show ∀_,_;intro W;exact ztv nx B _ l ss au W rfl (by omega)
 have Z:Hid (zbu w B l ss):=hs;clear hs;go_in;go_wp2_with fail
 generalize (?A0).alloc ?B0=W0 at hA r0 r1 r2|-;refine(HC.out W0 hA).mono ?_;rintro _ w1⟨rfl,ag⟩;dsimp only;have an:=zm hA ag;have p0:=zk ag r0;have p1:=zk ag r1;have O:=zk ag r2;have c0:=zb p0 0 (I_ nx) rfl;have c1:=zb p0 1 (.slice B ss.length l) rfl;have d0:=zb p1 0 (I_ 0) rfl;have d1:=zb p1 1 (O_) rfl;have f0:=zd p1 0;have f1:=zd p1 1;have H:=zb O 0 (I_ 0) rfl;have I:=zb O 1 (I_ 0) rfl;have J:=zb O 2 (O_) rfl;have g0:=zd O 0;have g1:=zd O 1;have g2:=zd O 2;by_cases hc:zaO nx ss=0
 .have G:=zlA (au:=au) hc;obtain⟨ab,N,aU,_⟩:=zjP hc;rw[hc];go_wp2_with fail
  refine(HS.out w1).mono ?_;rintro _ w2⟨rfl,ah⟩;dsimp only;have aa:=zm an ah;have L:=zk ah p0;have q1:=zk ah p1;have M:=zk ah O;clear c0 c1 d0 d1 f0 f1 H I J g0 g1 g2;have c0:=zb L 0 (I_ nx) rfl;have c1:=zb L 1 (.slice B ss.length l) rfl;by_cases hk:zcV nx ss au=0
  .rw[hk]at G|-;have HF:Hid (zb4 nx ss au=0):=G;have aq:ss.length≠0/\nx<=1048576:=by
    unfold zcV at hk
    split at hk
    cases hk
    split at hk
    cases hk
    rename_i h1
    split at hk
    cases hk
    rename_i h2
    exact⟨h1,by omega⟩
   have hw:IntKind.i64.wrap (nx+1)=nx+1:=by rw[IntKind.wrap_i64];omega
   have aV:=ze M;obtain⟨K,hK⟩:∃K,K=min ss.length 4:=⟨_,rfl⟩;have aw:K<=ss.length:=by omega
   have ax:(K:Int)<=l:=by omega
   have aQ:(0:Int)<=K:=by omega
   have ay:(K:Int)<=ss.length:=by omega
   have hT:Hid (ss.take 4=ss.take K/\(ss.take 4).length=K):=by
    refine⟨?_,by rw[lT9_];omega⟩;rw[hK];by_cases h:ss.length<=4;rw[Nat.min_eq_left h,tL_ h,tL_ (nR_ _)];rw[Nat.min_eq_right (by omega)]
   have hD:Hid (ss.drop 4=ss.drop K/\(ss.drop 4).length=ss.length-K):=by
    refine⟨?_,by rw[List.length_drop];omega⟩;rw[hK];by_cases h:ss.length<=4;rw[Nat.min_eq_left h,List.drop_of_length_le h,List.drop_of_length_le (nR_ _)];rw[Nat.min_eq_right (by omega)]
   obtain⟨r,t,rfl,_⟩:∃r t,B=some (p_ r t)/\∀j,j<ss.length->w.cell? (p_ r (t+j))=some (.string (ss.getD j ByteArray.empty)):=by
    rcases Z.out.strs.cells with h|h;rw[h]at aq;simp at aq;exact h
   have al:Hid (∀W:World,B_ w W->Calls prog 40 #[.slice (some (p_ r t)) K l,O_] W λe w'=>∃v,e=.returned v/\w'.ownsRow W.heap.size 9 1 v K (sv (ss.take K))/\B_ W w'):=by
    show ∀_,_;intro W hW;have:=zi8 (ss.take K) [] (some (p_ r t)) none K 0 l 0 W (by rw[lT9_];omega) rfl ⟨by rw[lT9_];omega,Z.out.max,(λe=>by cases e),(Z.out.strs.below hW).take K⟩ ⟨nR_ _,by decide,λ_=>rfl,⟨.inl rfl,λs h=>by cases h⟩⟩ (by omega);rw[List.append_nil,Nat.add_zero]at this;exact this
   have am:Hid (∀(W:World) (A:Q_) (m c:Nat),B_ w W->m=ss.length-K->m<=c->c<=l->A≠none->(A=some (p_ r (t+K))\/ss.length=K)->Calls prog 40 #[.slice A m c,O_] W λe w'=>∃v,e=.returned v/\w'.ownsRow W.heap.size 9 1 v m (sv (ss.drop K))/\B_ W w'):=by
    show ∀_,_;intro W A m c hW hm aX aS aA az;have aB:zas W A (ss.drop K):=by
     rcases az with rfl|h;exact(Z.out.strs.below hW).drop K;rw[List.drop_of_length_le (by omega)];exact⟨.inl rfl,λs h=>by cases h⟩
    have:=zi8 (ss.drop K) [] A none m 0 c 0 W (by rw[List.length_drop];exact hm) rfl ⟨by rw[List.length_drop];omega,by have:=Z.out.max;omega,(λe=>absurd e aA),aB⟩ ⟨nR_ _,by decide,λ_=>rfl,⟨.inl rfl,λs h=>by cases h⟩⟩ (by omega);rw[List.append_nil,Nat.add_zero]at this;exact this
   clear G hc hk aq;go_upto_region 7 with fail
   go_cut [9] (λv wx=>v=I_ (K:Int)/\w2=wx)
   case first=>
    by_cases h:ss.length<=4;have h4:(ss.length:Int)<=4:=by omega
    have hE:Hid ((ss.length:Int)=K):=by show _=_;omega
    rotate_left
    have h4:¬(ss.length:Int)<=4:=by omega
    have hE:Hid ((4:Int)=K):=by show _=_;omega
    rotate_left
    all_goals
     clear hK h aw ax ay;go_wp2_with fail
     go_meet
     case rel=>exact⟨by rw[<-hE.out]<;>exact cA_ (Value.int .i64) (by omega),rfl⟩
   refine kV_ ?E0 ?_;exact Value.slice (some (p_ r t)) ss.length l
   case rest=>
    obtain⟨rfl,rfl⟩:=hcut;clear hK;go_upto_region 8 with fail
    go_cut [10] (λv wx=>∃b f g,v=(P_ b 0)/\w2.heap.size<=b/\B_ w2 wx/\R_ wx b #[I_ au,I_ nx,.slice f K g] 86/\wx.ownsRow w2.heap.size 9 1 (.slice f K g) K (sv (ss.take K)))
    case first=>
     clear am;have aI:(w2.alloc ?B0).drew.cell? (p_ w.heap.size 0)=some (I_ nx):=zb (zR L) 0 _ rfl;have aJ:(w2.alloc ?B0).drew.cell? (p_ w.heap.size 1)=some ?E0:=zb (zR L) 1 _ rfl;go_region_held3 (λw'=>w'.cell? (p_ w.heap.size 0)=some (I_ nx)/\w'.cell? (p_ w.heap.size 1)=some ?E0) (go_keep) (first
      | (go_at_call 40;refine(al.out w2.drew aa.drew).mono ?_;rintro e u⟨v3,rfl,ac,ao⟩;have ai:=zbE ao;have z:=zk ai L;have g0:u.cell? (p_ w.heap.size 0)=some (I_ nx):=zb z 0 _ rfl;have g1:u.cell? (p_ w.heap.size 1)=some ?E0:=zb z 1 _ rfl;obtain⟨f,g,rfl⟩:=zH ac;have aK:(u.alloc ?B0).cell? (p_ w.heap.size 0)=some (I_ nx):=zb (zR z) 0 _ rfl;have aL:(u.alloc ?B0).cell? (p_ w.heap.size 1)=some ?E0:=zb (zR z) 1 _ rfl;have aM:(u.alloc (.cells #[I_ au,I_ nx,.slice f K g] 86)).cell? (p_ w.heap.size 0)=some (I_ nx):=zb (zR z) 0 _ rfl;have aN:(u.alloc (.cells #[I_ au,I_ nx,.slice f K g] 86)).cell? (p_ w.heap.size 1)=some ?E0:=zb (zR z) 1 _ rfl)
      | (go_at_call 40;refine(al.out (w2.drew.alloc ?B0) (aa.drew.alloc aa.size _)).mono ?_;rintro e u⟨v3,rfl,ac,ao⟩;have ap:=ao;have z:=(ap.block _ (by rw[zG];have:=ze L;simp;omega)).trans (zR (o:=.cells ?D0 86) (w:=w2.drew) L);have R:=zbK ap;have g0:u.cell? (p_ w.heap.size 0)=some (I_ nx):=zb z 0 _ rfl;have g1:u.cell? (p_ w.heap.size 1)=some ?E0:=zb z 1 _ rfl;have e0:u.cell? (p_ w2.heap.size 0)=some (I_ 0):=zb R 0 _ rfl;have e1:u.cell? (p_ w2.heap.size 1)=some (I_ 0):=zb R 1 _ rfl;have e2:u.cell? (p_ w2.heap.size 2)=some (O_):=zb R 2 _ rfl;have k0:u.frozen? (p_ w2.heap.size 0)=false:=zd R 0;have k1:u.frozen? (p_ w2.heap.size 1)=false:=zd R 1;have k2:u.frozen? (p_ w2.heap.size 2)=false:=zd R 2;obtain⟨f,g,rfl⟩:=zH ac;have Y:w.heap.size≠w2.heap.size:=(by omega);have aP:(((u.setCell (p_ w2.heap.size 0) (I_ au)).setCell (p_ w2.heap.size 1) (I_ nx)).setCell (p_ w2.heap.size 2) (.slice f K g)).cell? (p_ w.heap.size 0)=some (I_ nx):=zb (zh (zh (zh z Y) Y) Y) 0 _ rfl;have an:(((u.setCell (p_ w2.heap.size 0) (I_ au)).setCell (p_ w2.heap.size 1) (I_ nx)).setCell (p_ w2.heap.size 2) (.slice f K g)).cell? (p_ w.heap.size 1)=some ?E0:=zb (zh (zh (zh z Y) Y) Y) 1 _ rfl))
     all_goals
      go_wp2_with fail
      go_meet
      case rel=>
       first
        | exact⟨w2.heap.size,f,g,rfl,nR_ _,((((zbE (zS ap)).setCell (by simp) _).setCell (by simp) _).setCell (by simp) _),by simpa using hS_ _ _ 2 _ _ (.slice f K g) (hS_ _ _ 1 _ _ (I_ nx) (hS_ _ _ 0 _ _ (I_ au) R)),ownsRow_base' (zQ (zQ (zQ ac _ _ _ (by simp)) _ _ _ (by simp)) _ _ _ (by simp)) (by simp)⟩
        | exact⟨u.heap.size,f,g,rfl,ai.size,ai.alloc ai.size _,hN_ u _,ownsRow_base' (oA_ ac _) (by simp)⟩
    case rest=>
     obtain⟨b,f,g,rfl,aR,aj,ae,ho⟩:=hcut;have ab:b≠w.heap.size+1:=by omega
     have N:b≠w.heap.size+1+1:=by omega
     have ak:w.heap.size≠w.heap.size+1:=by omega
     have X:w.heap.size≠w.heap.size+1+1:=by omega
     have V:=zm aa aj;have z:=zk aj L;have s1:=zk aj q1;have s2:=zk aj M;have b0:=zb ae 0 (I_ au) rfl;have b1:=zb ae 1 (I_ nx) rfl;refine kV_ ?F0 ?_;exact Value.slice f K g;have b2:=zb ae 2 ?F0 rfl;have aW:=ze s2;clear c0 c1;have c0:=zb z 0 (I_ nx) rfl;have c1:=zb z 1 ?E0 rfl;clear al;go_upto_region 9 with fail
     by_cases hcap:l=K
     all_goals
      go_region_held3 (λw'=>w'.cell? (p_ w.heap.size 0)=some (I_ nx)/\w'.cell? (p_ w.heap.size 1)=some ?E0/\w'.cell? (p_ b 0)=some (I_ au)/\w'.cell? (p_ b 1)=some (I_ nx)/\w'.cell? (p_ b 2)=some ?F0) (go_keep) ((go_at_call 40;refine(am.out wc.drew _ _ _ V.drew (by first|rfl|omega) (by omega) (by omega) (by simp) (by first|exact .inl rfl|exact .inr (by omega))).mono ?_;rintro e d⟨v4,rfl,ad,y⟩;replace y:=zbE y;have T:=zk y z;have D:=zk y s1;have C:=zk y s2;have E:=zk y ae;have x0:d.cell? (p_ w.heap.size 0)=some (I_ nx):=zb T 0 _ rfl;have x1:d.cell? (p_ w.heap.size 1)=some ?E0:=zb T 1 _ rfl;have y0:d.cell? (p_ b 0)=some (I_ au):=zb E 0 _ rfl;have y1:d.cell? (p_ b 1)=some (I_ nx):=zb E 1 _ rfl;have y2:d.cell? (p_ b 2)=some ?F0:=zb E 2 _ rfl;have e0:d.cell? (p_ (w.heap.size+1) 0)=some (I_ 0):=zb D 0 _ rfl;have e1:d.cell? (p_ (w.heap.size+1) 1)=some (O_):=zb D 1 _ rfl;have k0:=zd D 0;have k1:=zd D 1;have H:d.cell? (p_ (w.heap.size+1+1) 0)=some (I_ 0):=zb C 0 _ rfl;have I:d.cell? (p_ (w.heap.size+1+1) 1)=some (I_ 0):=zb C 1 _ rfl;have J:d.cell? (p_ (w.heap.size+1+1) 2)=some (O_):=zb C 2 _ rfl;have l0:=zd C 0;have l1:=zd C 1;have l2:=zd C 2;obtain⟨p,q,rfl⟩:=zH ad;have F:=zh (j:=1) (v:=.slice p (ss.length-K) q) (zh (j:=0) (v:=I_ (nx+1)) E ab) ab;have U:=zh (j:=2) (v:=.slice f K g) (zh (j:=1) (v:=I_ nx) (zh (j:=0) (v:=I_ au) F N) N) N;have aC:((d.setCell (p_ (w.heap.size+1) 0) (I_ (nx+1))).setCell (p_ (w.heap.size+1) 1) (.slice p (ss.length-K) q)).cell? (p_ b 0)=some (I_ au):=zb F 0 _ rfl;have aD:((d.setCell (p_ (w.heap.size+1) 0) (I_ (nx+1))).setCell (p_ (w.heap.size+1) 1) (.slice p (ss.length-K) q)).cell? (p_ b 1)=some (I_ nx):=zb F 1 _ rfl;have aE:((d.setCell (p_ (w.heap.size+1) 0) (I_ (nx+1))).setCell (p_ (w.heap.size+1) 1) (.slice p (ss.length-K) q)).cell? (p_ b 2)=some ?F0:=zb F 2 _ rfl;have aF:(((((d.setCell (p_ (w.heap.size+1) 0) (I_ (nx+1))).setCell (p_ (w.heap.size+1) 1) (.slice p (ss.length-K) q)).setCell (p_ (w.heap.size+1+1) 0) (I_ au)).setCell (p_ (w.heap.size+1+1) 1) (I_ nx)).setCell (p_ (w.heap.size+1+1) 2) ?F0).cell? (p_ b 0)=some (I_ au):=zb U 0 _ rfl;have aG:(((((d.setCell (p_ (w.heap.size+1) 0) (I_ (nx+1))).setCell (p_ (w.heap.size+1) 1) (.slice p (ss.length-K) q)).setCell (p_ (w.heap.size+1+1) 0) (I_ au)).setCell (p_ (w.heap.size+1+1) 1) (I_ nx)).setCell (p_ (w.heap.size+1+1) 2) ?F0).cell? (p_ b 1)=some (I_ nx):=zb U 1 _ rfl;have aH:(((((d.setCell (p_ (w.heap.size+1) 0) (I_ (nx+1))).setCell (p_ (w.heap.size+1) 1) (.slice p (ss.length-K) q)).setCell (p_ (w.heap.size+1+1) 0) (I_ au)).setCell (p_ (w.heap.size+1+1) 1) (I_ nx)).setCell (p_ (w.heap.size+1+1) 2) ?F0).cell? (p_ b 2)=some ?F0:=zb U 2 _ rfl;have ar:=zh (j:=1) (v:=.slice p (ss.length-K) q) (zh (j:=0) (v:=I_ (nx+1)) T ak) ak;have af:=zh (j:=2) (v:=.slice f K g) (zh (j:=1) (v:=I_ nx) (zh (j:=0) (v:=I_ au) ar X) X) X;have o0:(((((d.setCell (p_ (w.heap.size+1) 0) (I_ (nx+1))).setCell (p_ (w.heap.size+1) 1) (.slice p (ss.length-K) q)).setCell (p_ (w.heap.size+1+1) 0) (I_ au)).setCell (p_ (w.heap.size+1+1) 1) (I_ nx)).setCell (p_ (w.heap.size+1+1) 2) ?F0).cell? (p_ w.heap.size 0)=some (I_ nx):=zb af 0 _ rfl;have o1:(((((d.setCell (p_ (w.heap.size+1) 0) (I_ (nx+1))).setCell (p_ (w.heap.size+1) 1) (.slice p (ss.length-K) q)).setCell (p_ (w.heap.size+1+1) 0) (I_ au)).setCell (p_ (w.heap.size+1+1) 1) (I_ nx)).setCell (p_ (w.heap.size+1+1) 2) ?F0).cell? (p_ w.heap.size 1)=some ?E0:=zb af 1 _ rfl))
      all_goals
       go_wp2_with fail
       refine bodyPost_ret (v:=.tuple #[.agg #[I_ (nx+1),.slice p (ss.length-K) q],.agg #[I_ au,I_ nx,?F0],I_ 0]) (by simp[results,results67,go_sem,e0,e1,H,I,J]) rfl (zfN.good HF.out hD.out.2.symm hT.out.2.symm ?_ ?_ ?_)
       .rw[hD.out.1];exact ownsRow_base' (zQ (zQ (zQ (zQ (zQ ad _ _ _ (by simp;omega)) _ _ _ (by simp;omega)) _ _ _ (by simp;omega)) _ _ _ (by simp;omega)) _ _ _ (by simp;omega)) (by simp;omega)
       .rw[hT.out.1];exact ownsRow_base' (zQ (zQ (zQ (zQ (zQ (zw ho y) _ _ _ (by omega)) _ _ _ (by omega)) _ _ _ (by omega)) _ _ _ (by omega)) _ _ _ (by omega)) (by omega)
       .exact((((((V.trans (y.mono V.size)).setCell (by simp<;>omega) _).setCell (by simp<;>omega) _).setCell (by simp<;>omega) _).setCell (by simp<;>omega) _).setCell (by simp<;>omega) _)
  have d0:=zb q1 0 (I_ 0) rfl;have d1:=zb q1 1 (O_) rfl;have f0:=zd q1 0;have f1:=zd q1 1;have H:=zb M 0 (I_ 0) rfl;have I:=zb M 1 (I_ 0) rfl;have J:=zb M 2 (O_) rfl;have g0:=zd M 0;have g1:=zd M 1;have g2:=zd M 2;rw[<-G];have h9:¬zb4 nx ss au=0:=by rw[G];exact hk
  have aO:(zb4 nx ss au != 0)=true:=by simpa using h9
  have HF:Hid (zb4 nx ss au≠0):=h9;clear G hc hk h9;generalize hE:zb4 nx ss au=ec at*;go_wp2_with fail
  refine bodyPost_ret (v:=.tuple #[.agg #[I_ 0,O_],.agg ?D0,I_ ec]) (by simp[results,results67,go_sem,d0,d1,H,I,J]) rfl (zfN.bad hE HF.out ?_);exact(((((aa.setCell (by simp<;>omega) _).setCell (by simp<;>omega) _).setCell (by simp<;>omega) _).setCell (by simp<;>omega) _).setCell (by simp<;>omega) _)
 have G:=zm4 (au:=au) hc;have av:zaO nx ss=12:=by rcases zkH nx ss with h|h;exact absurd h hc;exact h
 rw[av];clear hc av;go_wp2_with fail
 refine bodyPost_ret (v:=.tuple #[.agg #[I_ 0,O_],.agg ?D0,I_ 12]) (by simp[results,results67,go_sem,d0,d1,H,I,J]) rfl (zfN.bad G (by decide) ?_);exact(((((an.setCell (by simp<;>omega) _).setCell (by simp<;>omega) _).setCell (by simp<;>omega) _).setCell (by simp<;>omega) _).setCell (by simp<;>omega) _)
variable {w:World}{ss:Z_}{base:Nat}{au:Int}
theorem zxv {nx:Int}(h:zb4 nx ss au=0):zbk au nx (ss.take 4)=0/\zaO (nx+1) (ss.drop 4)=0:=by
 have b:zaO nx ss=0:=by
  by_cases g:zaO nx ss=0;exact g;rw[zm4 g]at h;cases h
 rw[zlA b,zcV]at h;by_cases h1:¬(0<=au/\au<4);rw[iP_ h1]at h;cases h;rw[iN_ h1]at h;by_cases h2:ss.length=0;rw[iP_ h2]at h;cases h;rw[iN_ h2]at h;by_cases h3:1048576<nx;rw[iP_ h3]at h;cases h;rw[zaO]at b;by_cases g:¬(1<=nx/\nx<=1048577)\/40<ss.length;rw[iP_ g]at b;cases b;rw[iN_ g]at b;by_cases g2:zen ss=true;obtain⟨d,f⟩:=zdJ.1 g2
 constructor
 rw[zbk,iN_ (by omega),iN_ (by rw[lT9_];omega),iP_];rw[List.all_eq_true];exact λs c=>d s (List.mem_of_mem_take c);rw[zaO,iN_ (by rw[List.length_drop];omega),iP_ (zdJ.2 ⟨λs c=>d s (List.mem_of_mem_drop c),f.sublist (List.drop_sublist _ _)⟩)];rw[iN_ g2]at b;cases b
theorem zl0 {nx:Int}(h:zaO nx ss=0):∀s∈ss,s.size<=maxLen:=by
 intro s b;rw[zaO]at h;by_cases g:¬(1<=nx/\nx<=1048577)\/40<ss.length;rw[iP_ g]at h;cases h;rw[iN_ g]at h;by_cases g2:zen ss=true;have:=(zdJ.1 g2).1 s b;have c:=of_decide_eq_true this;have d:(20:Nat)<=maxLen:=by unfold maxLen;omega
 omega;rw[iN_ g2]at h;cases h
theorem zo8 {A O:Int}{b:Q_}{j:Nat}(h:w.ownsRow base 9 1 (.slice b ss.length j) ss.length (sv ss))(p:∀s∈ss,s.size<=maxLen):zcN w ⟨⟨A,O,ss⟩,b,j⟩/\zbu w b j ss/\∀f l,b=some (p_ f l)->base<=f:=by
 obtain⟨t,rc,e,_,c,o⟩:=zjo h p
 injection e with e1 e2 e3
 subst e1 e3;refine⟨⟨c.strs,c.le,c.max,c.nil,?_⟩,c,o⟩;intro f l e;rcases h.2 with⟨d,_⟩|⟨g,q,r,d,_,m,_⟩
 injection d with e6;rw[show b=none from e6]at e;cases e
 injection d with e6
 rw[show b=some (p_ g 0)from e6]at e
 injection e with e7;injection e7 with e8
 subst e8;exact ze m
theorem zun (nx:Int)(o:Q_)(m:Nat)(ss:Z_)(au:Int):∃(q p r E:Int) (c b:Z_),
  (∀w,zbu w o m ss->Calls prog 67 #[.agg #[I_ nx,.slice o ss.length m],I_ au] w λe w'=>∃j l d f,e=.returned (.tuple #[.agg #[I_ q,.slice j c.length l],.agg #[I_ p,I_ r,.slice d b.length f],I_ E])/\w'.ownsRow w.heap.size 9 1 (.slice j c.length l) c.length (sv c)/\w'.ownsRow w.heap.size 9 1 (.slice d b.length f) b.length (sv b)/\B_ w w') /\
  ((E≠0/\zb4 nx ss au≠0)\/(E=0/\zb4 nx ss au=0/\q=nx+1/\p=au/\r=nx/\c=ss.drop 4/\b=ss.take 4)):=by
 refine⟨znX nx ss au,znY nx ss au,zlz nx ss au,zb4 nx ss au,zly nx ss au,zlx nx ss au,?_,?_⟩;intro w A;refine(zo7 nx o _ m ss au w rfl A).mono (λe w' k=>?_);obtain⟨v,u,z,s,t,y⟩:=k.out;obtain⟨j,l,rfl⟩:=zH s;obtain⟨d,f,rfl⟩:=zH t;exact⟨j,l,d,f,z,s,t,y⟩;by_cases g:zb4 nx ss au=0;exact .inr ⟨g,g,iP_ g,iP_ g,iP_ g,iP_ g,iP_ g⟩;exact .inl ⟨g,g⟩
theorem zqk (x:NM)(w:World)(U:Nat->Bool)(F o:Nat)(T:TypeId)(fc:X_)(h:zo w U F o T fc x) :
  Calls prog 43 #[P_ F o] w λe w'=>(∃v,e=.returned v)/\zal w U F o T fc x w' x.v.gather:=by
 obtain⟨C,z,B,E,r,m,hS,hC⟩:=zun x.nx x.pa x.pc x.txs x.nu;refine kA_ ?C0 ?_;exact #[I_ x.nx,.slice x.pa x.txs.length x.pc];have HS:Hid (∀V:World,B_ w V->Calls prog 67 #[.agg ?C0,I_ x.nu] V λe w'=>∃f l c d,e=.returned (.tuple #[.agg #[I_ C,.slice f r.length l],.agg #[I_ z,I_ B,.slice c m.length d],I_ E])/\w'.ownsRow V.heap.size 9 1 (.slice f r.length l) r.length (sv r)/\w'.ownsRow V.heap.size 9 1 (.slice c m.length d) m.length (sv m)/\B_ V w'):=by
  show ∀V,_;intro V hV;exact hS V ((h.below hV).etx.sub (zK _ _))
 have HC:Hid _:=hC;clear hC hS;have k0:C_ w F o (I_ x.nu):=h.cell 0 _ rfl;have k2:=h.cell 2 _ rfl;have k3:=h.cell 3 _ rfl;go_in;go_upto_region 0 with fail
 have ao:=dB_ w;refine wR_ (S:=λw'=>C_ w' F o (I_ x.nu)/\C_ w' F (o+2) (I_ x.nx)/\C_ w' F (o+3) (.slice x.pa x.txs.length x.pc)) (by kernel_rfl) ⟨zr ao k0,zr ao k2,zr ao k3⟩ (λG=>?_);generalize w.drew=V0 at ao  G ⊢;refine tks_ 8 [(0,7,(P_ F o)),(1,8,(P_ F o)),(2,9,(P_ F (o+2))),(3,10,.agg ?C0),(4,11,(P_ F o)),(5,12,(P_ F o)),(6,13,(P_ F o)),(7,14,I_ x.nu)] G ?_;simp only[tkf_,zf];clear G;refine zno (λGO ag aa=>?_);refine znp (λA0 L=>?_);have bd:Hid (∀(V:World) (f:Q_) (l:Nat) (c:Q_) (d:Nat) (y:Nat) (t:Nat),B_ w V->(V.ownsRow w.heap.size 9 1 (.slice f r.length l) r.length (sv r))->(V.ownsRow w.heap.size 9 1 (.slice c m.length d) m.length (sv m))->(w.heap.size<=y)->(w.heap.size<=t)->(R_ V y #[I_ C,.slice f r.length l] 55)->(R_ V t #[I_ z,I_ B,.slice c m.length d] 86)->(y≠t)->GO 0 #[true,true,true,true,true,true,true,true,true,true,true,true,true,true,true,true,true,true] ((((((((A0.put (some 15) (.tuple #[.agg #[I_ C,.slice f r.length l],.agg #[I_ z,I_ B,.slice c m.length d],I_ E])).put (some 6) (.tuple #[.agg #[I_ C,.slice f r.length l],.agg #[I_ z,I_ B,.slice c m.length d],I_ E])).put (some 16) (.agg #[I_ C,.slice f r.length l])).put (some 17) (.agg #[I_ z,I_ B,.slice c m.length d])).put (some 18) (I_ E)).put (some 2) (P_ y 0)).put (some 3) (P_ t 0)).put (some 4) (I_ E)) V):=by
  show ∀V,_;intro V f l c d y t D o1 o2 gp gb pD bE ah;refine ag.out _ _ _ _ ?_;rw[<-L.out]
  try simp only[zf]
  refine wD_ (by kernel_rfl) ?_ _;clear GO ag aa;have aC:=h.bnd.new gb;have aD:=h.bnd.new gp;rcases HC.out with⟨hE,hF⟩|⟨hE,hF,hN,ay,aA,aB,az⟩
  .have eb:(E != 0)=true:=by simpa using hE
   have HG:Hid (x.v.gather=x.v):=iP_ hF;clear hF HC hE;go_wp2_with fail
   refine bP_ (results_none rfl _ _ _) rfl ?_;exact⟨⟨_,rfl⟩,by rw[HG.out];exact zal.quiet h D⟩
  subst hE;obtain⟨g1,g2⟩:=zxv hF;rw[<-hN,<-aB]at g2;have hf:(⟨z,B,m⟩:BW).f=0:=by show zbk z B m=0;rw[ay,aA,az];exact g1
  have HG:Hid (x.v.gather=if zb1 (x.v.hearB ⟨z,B,m⟩).k.sh (⟨z,B,m⟩:BW).d then({ x.v.hearB ⟨z,B,m⟩with nx:=C,txs:=r }:Nd).sendAll (zed ⟨z,B,m⟩)else x.v.hearB ⟨z,B,m⟩):=by
   show _=_;rw[hN,ay,aA,aB,az,Nd.gather,iN_ (λg=>g hF)]
   rfl
  have aN:Hid (zaO C r=0):=g2;clear g1 g2 hN ay aA aB az hF HC;obtain⟨f1,f2,f3,f4⟩:=zh5 hf;have aG:=zo8 (A:=z) (O:=B) o2 (λs hs=>nT_ (f4 s hs) (by unfold maxLen;omega));have ak:=zo8 (A:=z) (O:=B) o1 (zl0 aN.out);have hV:=h.below D;have aH:zcN (zq U V) ⟨⟨z,B,m⟩,c,d⟩:=aG.1.hid (λsb so e=>h.bnd.new (aG.2.2 sb so e));have aW:zbu (zq U V) f l r:=⟨ak.2.1.le,ak.2.1.max,ak.2.1.nil,ak.2.1.strs.hid (λsb so e _=>h.bnd.new (ak.2.2 sb so e))⟩;have HB:=zlR x ⟨⟨z,B,m⟩,c,d⟩ V U F o T fc hV aH hf;have c0:=zb bE 0 _ rfl;have c1:=zb bE 1 _ rfl;have c2:=zb bE 2 _ rfl;clear aG ak o1 o2;have ar:Hid _:=aW;have aq:Hid _:=aH;clear aW aH;go_wp2_with fail
  refine HB.mono ?_;rintro e w1⟨⟨v,X⟩,U1,fc1,x1,h1,n1,v1⟩;subst X;dsimp only;clear HB c0 c1 c2;have au:=n1.box hV bE aC;have a7:=n1.box hV pD aD;have aS:=n1.hides (ze bE) aC;have bh:=n1.hides (ze pD) aD;have aI:=aq.out.sub (n1.sub hV);have aX:=ar.out.sub (n1.sub hV);have aJ:=aI.sub (zK _ _);have a6:=(zl.below (F:=F) (o:=o) U fc x D).trans n1;have ax:Hid _:=v1;have HD:=zis z B c _ d m w1 rfl aJ.strs hf f1 f2 f3 f4 (λsb so e=>aJ.lt sb so e) (h1.tabs.sub (zK _ _));clear v1 aJ pD bE aC aD n1 ar aq f1 f2 f3 f4;have ar:Hid _:=aX;have aq:Hid _:=aI;clear aX aI;have c0:=zb au 0 _ rfl;have c1:=zb au 1 _ rfl;have c2:=zb au 2 _ rfl;go_wp2_with fail
  refine HD.mono ?_;rintro e w2⟨g,X,hg,aE,aR⟩;subst X;dsimp only;clear HD c0 c1 c2 hg;have h2:=h1.below aE;have n2:=a6.trans (zl.below (F:=F) (o:=o) U1 fc1 x1 aE);have an:=zgX x1 (⟨z,B,m⟩:BW).d (some (p_ g 0)) 32 32 w2 U1 F o T fc1 h2 (zhW _ _).symm aR;clear aR;rw[show zb1 (x.v.hearB ⟨z,B,m⟩).k.sh (⟨z,B,m⟩:BW).d=zb1 (shw x1.sh) (⟨z,B,m⟩:BW).d from by show _=zb1 x1.v.k.sh _;rw[ax.out]]at HG;generalize zb1 (shw x1.sh) (⟨z,B,m⟩:BW).d=q at an HG;cases q with
  | false=>
   go_wp2_with fail
   refine an.mono ?_;rintro _ w3⟨rfl,aj⟩;dsimp only;clear an;go_wp2_with fail
   refine bP_ (results_none rfl _ _ _) rfl ?_;exact⟨⟨_,rfl⟩,U1,fc1,x1,h2.below aj,n2.trans (zl.below (F:=F) (o:=o) U1 fc1 x1 aj),by rw[HG.out,ax.out];rfl⟩
  | true=>
   go_wp2_with fail
   refine an.mono ?_;rintro _ w3⟨rfl,aj⟩;dsimp only;clear an;have h3:=h2.below aj;have aw:=zm aE aj;have n3:=n2.trans (zl.below (F:=F) (o:=o) U1 fc1 x1 aj);have aO:=zk aw au;have aK:=zk aw a7;obtain⟨U4,aQ,x4,h4,n4,v4⟩:=h3.put_pool (nx':=C) (a':=f) (c':=l) (l':=r) (bR_ _ w3) (ar.out.sub (h1.later aw)) (h3.inv.pool_ aN.out);have a1:Hid _:=v4;clear v4;have d0:=zb aK 0 _ rfl;have d1:=zb aK 1 _ rfl;have k2:=h3.cell 2 _ rfl;have k3:=h3.cell 3 _ rfl;have j2:=h3.free (o+2);have j3:=h3.free (o+3);have aT:t≠F:=λe=>by rw[e,h1.fu]at aS;cases aS
   have av:=zh (b:=F) (j:=o+3) (v:=.slice f r.length l) (zh (b:=F) (j:=o+2) (v:=I_ C) aO aT) aT;have aU:zcN (zq U4 _) ⟨⟨z,B,m⟩,c,d⟩:=(aq.out.sub (h1.later aw)).sub (n4.sub h3);have aV:=ztU aU hf;go_upto_region 6 with fail
   generalize (w3.setCell (p_ F (o+2)) (I_ C)).setCell (p_ F (o+3)) (.slice f r.length l)=W4 at h4 n4 av aV|-;clear d0 d1 k2 k3 j2 j3 aO aK h3 aU;have c0:=zb av 0 _ rfl;have c1:=zb av 1 _ rfl;have c2:=zb av 2 _ rfl;have aM:=zmy ⟨⟨z,B,m⟩,c,d⟩ W4;go_wp2_with fail
   refine aM.mono ?_;rintro _ w5⟨rfl,aF⟩;dsimp only;clear aM c0 c1 c2;have HA:=zh7 x4 (zfr ⟨⟨z,B,m⟩,c,d⟩) w5 U4 F o T aQ (h4.below aF) (aV.sub (h4.later aF));go_wp2_with fail
   refine HA.mono ?_;rintro e w6⟨⟨v,X⟩,U6,fc6,x6,h6,n6,v6⟩;subst X;dsimp only;clear HA;go_wp2_with fail
   go_end0;refine⟨⟨_,rfl⟩,U6,fc6,x6,h6,(n3.trans n4).trans ((zl.below (F:=F) (o:=o) U4 aQ x4 aF).trans n6),?_⟩;rw[v6,a1.out,HG.out];show({ x1.v with nx:=C,txs:=r }:Nd).sendAll _=_;rw[ax.out]
   rfl
 refine kA_ ?D0 ?_;exact #[I_ 0,I_ 0,O_];have bc:Hid (∀(V:World) (f:Q_) (l:Nat) (c:Q_) (d:Nat) (y:Nat) (t:Nat),B_ w V->(V.ownsRow w.heap.size 9 1 (.slice f r.length l) r.length (sv r))->(V.ownsRow w.heap.size 9 1 (.slice c m.length d) m.length (sv m))->(w.heap.size<=y)->(R_ V t ?D0 86)->(w.heap.size<=t)->(R_ V y #[I_ C,.slice f r.length l] 55)->(y≠t)->GO 2 #[true,true,true,true,true,true,true,true,true,true,true,true,true,true,true,true,false,false] (((((((A0.put (some 15) (.tuple #[.agg #[I_ C,.slice f r.length l],.agg #[I_ z,I_ B,.slice c m.length d],I_ E])).put (some 6) (.tuple #[.agg #[I_ C,.slice f r.length l],.agg #[I_ z,I_ B,.slice c m.length d],I_ E])).put (some 16) (.agg #[I_ C,.slice f r.length l])).put (some 17) (.agg #[I_ z,I_ B,.slice c m.length d])).put (some 18) (I_ E)).put (some 2) (P_ y 0)).put (some 3) (P_ t 0)) V):=by
  show ∀V,_;intro V f l c d y t D o1 o2 gp N gb pD ah;refine ag.out _ _ _ _ ?_;rw[<-L.out]
  try simp only[zf]
  refine zE 16 rfl (λK J=>?_);have al:=zc2 o1 N (by decide);have am:=zc2 o2 N (by decide);have a2:=zb N 0 _ rfl;have a4:=zd N 0;have a3:=zb N 1 _ rfl;have a5:=zd N 1;have bf:=zb N 2 _ rfl;have bg:=zd N 2;refine kW_ ?E0 ?_;exact((V.setCell (p_ t 0) (I_ z)).setCell (p_ t 1) (I_ B)).setCell (p_ t 2) (.slice c m.length d);refine zX rfl rfl ?E0 (by go_simp) ?_;refine kV_ ?F0 ?_;exact Value.slice c m.length d;have u:=(((D.setCell (p:=p_ t 0) gb (I_ z)).setCell (p:=p_ t 1) gb (I_ B)).setCell (p:=p_ t 2) gb ?F0);have aP:(?E0).heap[t]? = some (.cells #[I_ z,I_ B,?F0] 86 (0,0)):=by simpa using(hS_ _ _ 2 _ _ ?F0 (hS_ _ _ 1 _ _ (I_ B) (hS_ _ _ 0 _ _ (I_ z) N)))
  have ac:=(zaQ (zaQ (zaQ o1 t 0 (I_ z) al) t 1 (I_ B) al) t 2 ?F0 al);have ad:=(zaQ (zaQ (zaQ o2 t 0 (I_ z) am) t 1 (I_ B) am) t 2 ?F0 am);have ap:=(zh (j:=2) (v:=.slice c m.length d) (zh (j:=1) (v:=I_ B) (zh (j:=0) (v:=I_ z) pD ah) ah) ah);generalize ?E0=I at u aP ac ad ap|-;refine J.out _ _ ⟨zr u k0,zr u k2,zr u k3⟩ (λG=>?_);simp only[List.setIfInBounds_toArray,List.set_cons_zero,List.set_cons_succ];refine zU 17 4 (I_ E) rfl rfl G ?_;simp only[zf];clear G;have h:=bd.out I f l c d y t u ac ad gp gb ap aP ah;rw[<-L.out]at h
  (try simp only[zf]at h)
  (try simp only[zf])
  exact aa.out _ _ _ _ h
 have aL:Hid (∀(V:World) (f:Q_) (l:Nat) (c:Q_) (d:Nat) (y:Nat) (t:Nat),B_ w V->(V.ownsRow w.heap.size 9 1 (.slice f r.length l) r.length (sv r))->(V.ownsRow w.heap.size 9 1 (.slice c m.length d) m.length (sv m))->(R_ V y #[I_ 0,O_] 55)->(w.heap.size<=y)->(R_ V t ?D0 86)->(w.heap.size<=t)->(y≠t)->GO 3 #[true,true,true,true,true,true,true,true,true,true,true,true,true,true,true,false,false,false] (((((((A0.put (some 15) (.tuple #[.agg #[I_ C,.slice f r.length l],.agg #[I_ z,I_ B,.slice c m.length d],I_ E])).put (some 6) (.tuple #[.agg #[I_ C,.slice f r.length l],.agg #[I_ z,I_ B,.slice c m.length d],I_ E])).put (some 16) (.agg #[I_ C,.slice f r.length l])).put (some 17) (.agg #[I_ z,I_ B,.slice c m.length d])).put (some 18) (I_ E)).put (some 2) (P_ y 0)).put (some 3) (P_ t 0)) V):=by
  show ∀V,_;intro V f l c d y t D o1 o2 Z gp N gb ah;refine ag.out _ _ _ _ ?_;rw[<-L.out]
  try simp only[zf]
  refine zE 15 rfl (λK J=>?_);have al:=zc2 o1 Z (by decide);have am:=zc2 o2 Z (by decide);have a2:=zb Z 0 _ rfl;have a4:=zd Z 0;have a3:=zb Z 1 _ rfl;have a5:=zd Z 1;refine kW_ ?G0 ?_;exact(V.setCell (p_ y 0) (I_ C)).setCell (p_ y 1) (.slice f r.length l);refine zX rfl rfl ?G0 (by go_simp) ?_;refine kV_ ?H0 ?_;exact Value.slice f r.length l;have u:=((D.setCell (p:=p_ y 0) gp (I_ C)).setCell (p:=p_ y 1) gp ?H0);have ap:(?G0).heap[y]? = some (.cells #[I_ C,?H0] 55 (0,0)):=by simpa using(hS_ _ _ 1 _ _ ?H0 (hS_ _ _ 0 _ _ (I_ C) Z))
  have ac:=(zaQ (zaQ o1 y 0 (I_ C) al) y 1 ?H0 al);have ad:=(zaQ (zaQ o2 y 0 (I_ C) am) y 1 ?H0 am);have Y:=(zh (j:=1) (v:=.slice f r.length l) (zh (j:=0) (v:=I_ C) N (λe=>ah e.symm)) (λe=>ah e.symm));generalize ?G0=I at u ap ac ad Y|-;refine J.out _ _ ⟨zr u k0,zr u k2,zr u k3⟩ (λG=>?_);clear G;have h:=bc.out I f l c d y t u ac ad gp Y gb ap ah;rw[<-L.out]at h
  (try simp only[zf]at h)
  (try simp only[List.setIfInBounds_toArray,List.set_cons_zero,List.set_cons_succ])
  exact aa.out _ _ _ _ h
 refine kO_ ?A0 ?_;exact Obj.cells #[I_ 0,I_ 0,O_] 86;have aZ:Hid (∀(V:World) (f:Q_) (l:Nat) (c:Q_) (d:Nat) (y:Nat),B_ w V->(V.ownsRow w.heap.size 9 1 (.slice f r.length l) r.length (sv r))->(V.ownsRow w.heap.size 9 1 (.slice c m.length d) m.length (sv m))->(R_ V y #[I_ 0,O_] 55)->(w.heap.size<=y)->GO 4 #[true,true,true,true,true,true,true,true,true,true,true,true,true,true,false,false,false,false] ((((((A0.put (some 15) (.tuple #[.agg #[I_ C,.slice f r.length l],.agg #[I_ z,I_ B,.slice c m.length d],I_ E])).put (some 6) (.tuple #[.agg #[I_ C,.slice f r.length l],.agg #[I_ z,I_ B,.slice c m.length d],I_ E])).put (some 16) (.agg #[I_ C,.slice f r.length l])).put (some 17) (.agg #[I_ z,I_ B,.slice c m.length d])).put (some 18) (I_ E)).put (some 2) (P_ y 0)) V):=by
  show ∀V,_;intro V f l c d y D o1 o2 Z gp;refine ag.out _ _ _ _ ?_;rw[<-L.out]
  try simp only[zf]
  refine zE 14 rfl (λK J=>?_);refine zy rfl 3 rfl (P_ V.heap.size 0) (V.alloc ?A0) (by go_simp) ?_;have H:=zC V ?A0;have u:=zm D H;have Y:=hN_ V ?A0;have ae:=D.size;generalize hW':V.alloc ?A0=I at H u Y|-;clear hW';obtain⟨t,M⟩:∃t,t=V.heap.size:=⟨_,rfl⟩;rw[<-M]at Y ae|-;have ai:y≠t:=by have:=ze Z;omega
  have R:=H;clear M;refine J.out _ _ ⟨zr u k0,zr u k2,zr u k3⟩ (λG=>?_);clear G;have h:=aL.out I f l c d y t u (zw o1 R) (zw o2 R) ((R.block _ (ze Z)).trans Z) gp Y ae ai;rw[<-L.out]at h
  (try simp only[zf]at h)
  (try simp only[zf])
  exact aa.out _ _ _ _ h
 refine kO_ ?B0 ?_;exact Obj.cells #[I_ 0,O_] 55;have aY:Hid (∀(V:World) (f:Q_) (l:Nat) (c:Q_) (d:Nat) (t:Nat),B_ w V->(V.ownsRow w.heap.size 9 1 (.slice f r.length l) r.length (sv r))->(V.ownsRow w.heap.size 9 1 (.slice c m.length d) m.length (sv m))->(R_ V t ?D0 86)->(w.heap.size<=t)->GO 4 #[true,true,true,true,true,true,true,true,true,true,true,true,true,false,true,false,false,false] ((((((A0.put (some 15) (.tuple #[.agg #[I_ C,.slice f r.length l],.agg #[I_ z,I_ B,.slice c m.length d],I_ E])).put (some 6) (.tuple #[.agg #[I_ C,.slice f r.length l],.agg #[I_ z,I_ B,.slice c m.length d],I_ E])).put (some 16) (.agg #[I_ C,.slice f r.length l])).put (some 17) (.agg #[I_ z,I_ B,.slice c m.length d])).put (some 18) (I_ E)).put (some 3) (P_ t 0)) V):=by
  show ∀V,_;intro V f l c d t D o1 o2 N gb;refine ag.out _ _ _ _ ?_;rw[<-L.out]
  try simp only[zf]
  refine zE 13 rfl (λK J=>?_);refine zy rfl 2 rfl (P_ V.heap.size 0) (V.alloc ?B0) (by go_simp) ?_;have H:=zC V ?B0;have u:=zm D H;have ab:=hN_ V ?B0;have af:=D.size;generalize hW':V.alloc ?B0=I at H u ab|-;clear hW';obtain⟨y,M⟩:∃y,y=V.heap.size:=⟨_,rfl⟩;rw[<-M]at ab af|-;have ai:y≠t:=by have:=ze N;omega
  have R:=H;clear M;refine J.out _ _ ⟨zr u k0,zr u k2,zr u k3⟩ (λG=>?_);clear G;have h:=aL.out I f l c d y t u (zw o1 R) (zw o2 R) ab af ((R.block _ (ze N)).trans N) gb ai;rw[<-L.out]at h
  (try simp only[zf]at h)
  (try simp only[zf])
  exact aa.out _ _ _ _ h
 have ba:Hid (∀(V:World) (f:Q_) (l:Nat) (c:Q_) (d:Nat),B_ w V->(V.ownsRow w.heap.size 9 1 (.slice f r.length l) r.length (sv r))->(V.ownsRow w.heap.size 9 1 (.slice c m.length d) m.length (sv m))->GO 5 #[true,true,true,true,true,true,true,true,true,true,true,true,true,false,false,false,false,false] (((((A0.put (some 15) (.tuple #[.agg #[I_ C,.slice f r.length l],.agg #[I_ z,I_ B,.slice c m.length d],I_ E])).put (some 6) (.tuple #[.agg #[I_ C,.slice f r.length l],.agg #[I_ z,I_ B,.slice c m.length d],I_ E])).put (some 16) (.agg #[I_ C,.slice f r.length l])).put (some 17) (.agg #[I_ z,I_ B,.slice c m.length d])).put (some 18) (I_ E)) V):=by
  show ∀V,_;intro V f l c d D o1 o2;refine ag.out _ _ _ _ ?_;rw[<-L.out]
  try simp only[zf]
  refine rY_ (rs:=[13,14]) (by kernel_rfl) (by simp) (rA_ rfl (λK J=>?_) (rA_ rfl (λK J=>?_) rN_));refine zy rfl 2 rfl (P_ V.heap.size 0) (V.alloc ?B0) (by go_simp) ?_;have H:=zC V ?B0;have u:=zm D H;have ab:=hN_ V ?B0;have af:=D.size;generalize hW':V.alloc ?B0=I at H u ab|-;clear hW';obtain⟨y,M⟩:∃y,y=V.heap.size:=⟨_,rfl⟩;rw[<-M]at ab af|-
  rotate_left
  refine zy rfl 3 rfl (P_ V.heap.size 0) (V.alloc ?A0) (by go_simp) ?_;have H:=zC V ?A0;have u:=zm D H;have Y:=hN_ V ?A0;have ae:=D.size;generalize hW':V.alloc ?A0=I at H u Y|-;clear hW';obtain⟨t,M⟩:∃t,t=V.heap.size:=⟨_,rfl⟩;rw[<-M]at Y ae|-
  rotate_left
  all_goals
   have R:=H;clear M;refine J.out _ _ ⟨zr u k0,zr u k2,zr u k3⟩ (λG=>?_);clear G
  have h:=aZ.out I f l c d y u (zw o1 R) (zw o2 R) ab af
  rotate_left
  have h:=aY.out I f l c d t u (zw o1 R) (zw o2 R) Y ae
  rotate_left
  all_goals
   rw[<-L.out]at h
   (try simp only[zf]at h)
   (try simp only[zf])
   exact aa.out _ _ _ _ h
 have a0:Hid (∀(V:World) (y:Nat) (t:Nat),B_ w V->(R_ V y #[I_ 0,O_] 55)->(w.heap.size<=y)->(R_ V t ?D0 86)->(w.heap.size<=t)->(y≠t)->GO 8 #[true,true,true,true,true,true,true,true,false,false,false,false,false,true,true,false,false,false] ((A0.put (some 2) (P_ y 0)).put (some 3) (P_ t 0)) V):=by
  show ∀V,_;intro V y t D Z gp N gb ah;refine ag.out _ _ _ _ ?_;rw[<-L.out]
  try simp only[zf]
  refine zE 8 rfl (λK J=>?_);refine zj rfl 15 rfl 67 [.tmp 10,.tmp 14] #[55,3] rfl [.agg ?C0,I_ x.nu] rfl (eO_ func67) (λv w'=>∃f l c d,v=.tuple #[.agg #[I_ C,.slice f r.length l],.agg #[I_ z,I_ B,.slice c m.length d],I_ E]/\w'.ownsRow w.heap.size 9 1 (.slice f r.length l) r.length (sv r)/\w'.ownsRow w.heap.size 9 1 (.slice c m.length d) m.length (sv m)/\B_ V w') ((HS.out V D).mono (λe w2 k=>by obtain⟨f,l,c,d,X,h1,h2,h3⟩:=k;exact⟨_,X,f,l,c,d,rfl,zcX h1 D.size,zcX h2 D.size,h3⟩)) ?_;rintro v I⟨f,l,c,d,rfl,ac,ad,hb⟩;have u:=zm D hb;refine J.out _ _ ⟨zr u k0,zr u k2,zr u k3⟩ (λG=>?_);simp only[zf];refine tks_ 4 [(9,6,.tuple #[.agg #[I_ C,.slice f r.length l],.agg #[I_ z,I_ B,.slice c m.length d],I_ E]),(10,16,.agg #[I_ C,.slice f r.length l]),(11,17,.agg #[I_ z,I_ B,.slice c m.length d]),(12,18,I_ E)] G ?_;simp only[tkf_,zf];clear G;have h:=aL.out I f l c d y t u ac ad (zk hb Z) gp (zk hb N) gb ah;rw[<-L.out]at h
  (try simp only[zf]at h)
  (try simp only[zf])
  exact aa.out _ _ _ _ h
 have be:Hid (∀(V:World) (y:Nat),B_ w V->(R_ V y #[I_ 0,O_] 55)->(w.heap.size<=y)->GO 9 #[true,true,true,true,true,true,true,true,false,false,false,false,false,true,false,false,false,false] (A0.put (some 2) (P_ y 0)) V):=by
  show ∀V,_;intro V y D Z gp;refine ag.out _ _ _ _ ?_;rw[<-L.out]
  try simp only[zf]
  refine rY_ (rs:=[8,14]) (by kernel_rfl) (by simp) (rA_ rfl (λK J=>?_) (rA_ rfl (λK J=>?_) rN_));refine zj rfl 15 rfl 67 [.tmp 10,.tmp 14] #[55,3] rfl [.agg ?C0,I_ x.nu] rfl (eO_ func67) (λv w'=>∃f l c d,v=.tuple #[.agg #[I_ C,.slice f r.length l],.agg #[I_ z,I_ B,.slice c m.length d],I_ E]/\w'.ownsRow w.heap.size 9 1 (.slice f r.length l) r.length (sv r)/\w'.ownsRow w.heap.size 9 1 (.slice c m.length d) m.length (sv m)/\B_ V w') ((HS.out V D).mono (λe w2 k=>by obtain⟨f,l,c,d,X,h1,h2,h3⟩:=k;exact⟨_,X,f,l,c,d,rfl,zcX h1 D.size,zcX h2 D.size,h3⟩)) ?_;rintro v I⟨f,l,c,d,rfl,ac,ad,hb⟩;have u:=zm D hb
  rotate_left
  refine zy rfl 3 rfl (P_ V.heap.size 0) (V.alloc ?A0) (by go_simp) ?_;have H:=zC V ?A0;have u:=zm D H;have Y:=hN_ V ?A0;have ae:=D.size;generalize hW':V.alloc ?A0=I at H u Y|-;clear hW';obtain⟨t,M⟩:∃t,t=V.heap.size:=⟨_,rfl⟩;rw[<-M]at Y ae|-;have ai:y≠t:=by have:=ze Z;omega
  have R:=H;clear M
  rotate_left
  all_goals refine J.out _ _ ⟨zr u k0,zr u k2,zr u k3⟩ (λG=>?_)
  simp only[zf];refine tks_ 4 [(9,6,.tuple #[.agg #[I_ C,.slice f r.length l],.agg #[I_ z,I_ B,.slice c m.length d],I_ E]),(10,16,.agg #[I_ C,.slice f r.length l]),(11,17,.agg #[I_ z,I_ B,.slice c m.length d]),(12,18,I_ E)] G ?_;simp only[tkf_,zf];clear G;have h:=aZ.out I f l c d y u ac ad (zk hb Z) gp
  rotate_left
  clear G;have h:=a0.out I y t u ((R.block _ (ze Z)).trans Z) gp Y ae ai
  rotate_left
  all_goals
   rw[<-L.out]at h
   (try simp only[zf]at h)
   (try simp only[zf])
   exact aa.out _ _ _ _ h
 have a9:Hid (∀(V:World) (t:Nat),B_ w V->(R_ V t ?D0 86)->(w.heap.size<=t)->GO 9 #[true,true,true,true,true,true,true,true,false,false,false,false,false,false,true,false,false,false] (A0.put (some 3) (P_ t 0)) V):=by
  show ∀V,_;intro V t D N gb;refine ag.out _ _ _ _ ?_;rw[<-L.out]
  try simp only[zf]
  refine rY_ (rs:=[8,13]) (by kernel_rfl) (by simp) (rA_ rfl (λK J=>?_) (rA_ rfl (λK J=>?_) rN_));refine zj rfl 15 rfl 67 [.tmp 10,.tmp 14] #[55,3] rfl [.agg ?C0,I_ x.nu] rfl (eO_ func67) (λv w'=>∃f l c d,v=.tuple #[.agg #[I_ C,.slice f r.length l],.agg #[I_ z,I_ B,.slice c m.length d],I_ E]/\w'.ownsRow w.heap.size 9 1 (.slice f r.length l) r.length (sv r)/\w'.ownsRow w.heap.size 9 1 (.slice c m.length d) m.length (sv m)/\B_ V w') ((HS.out V D).mono (λe w2 k=>by obtain⟨f,l,c,d,X,h1,h2,h3⟩:=k;exact⟨_,X,f,l,c,d,rfl,zcX h1 D.size,zcX h2 D.size,h3⟩)) ?_;rintro v I⟨f,l,c,d,rfl,ac,ad,hb⟩;have u:=zm D hb
  rotate_left
  refine zy rfl 2 rfl (P_ V.heap.size 0) (V.alloc ?B0) (by go_simp) ?_;have H:=zC V ?B0;have u:=zm D H;have ab:=hN_ V ?B0;have af:=D.size;generalize hW':V.alloc ?B0=I at H u ab|-;clear hW';obtain⟨y,M⟩:∃y,y=V.heap.size:=⟨_,rfl⟩;rw[<-M]at ab af|-;have ai:y≠t:=by have:=ze N;omega
  have R:=H;clear M
  rotate_left
  all_goals refine J.out _ _ ⟨zr u k0,zr u k2,zr u k3⟩ (λG=>?_)
  simp only[zf];refine tks_ 4 [(9,6,.tuple #[.agg #[I_ C,.slice f r.length l],.agg #[I_ z,I_ B,.slice c m.length d],I_ E]),(10,16,.agg #[I_ C,.slice f r.length l]),(11,17,.agg #[I_ z,I_ B,.slice c m.length d]),(12,18,I_ E)] G ?_;simp only[tkf_,zf];clear G;have h:=aY.out I f l c d t u ac ad (zk hb N) gb
  rotate_left
  clear G;have h:=a0.out I y t u ab af ((R.block _ (ze N)).trans N) gb ai
  rotate_left
  all_goals
   rw[<-L.out]at h
   (try simp only[zf]at h)
   (try simp only[zf])
   exact aa.out _ _ _ _ h
 have a8:Hid (∀(V:World),B_ w V->GO 10 #[true,true,true,true,true,true,true,true,false,false,false,false,false,false,false,false,false,false] A0 V):=by
  show ∀V,_;intro V  D;refine ag.out _ _ _ _ ?_;rw[<-L.out]
  try simp only[zf]
  refine rY_ (rs:=[8,13,14]) (by kernel_rfl) (by simp) (rA_ rfl (λK J=>?_) (rA_ rfl (λK J=>?_) (rA_ rfl (λK J=>?_) rN_)));refine zj rfl 15 rfl 67 [.tmp 10,.tmp 14] #[55,3] rfl [.agg ?C0,I_ x.nu] rfl (eO_ func67) (λv w'=>∃f l c d,v=.tuple #[.agg #[I_ C,.slice f r.length l],.agg #[I_ z,I_ B,.slice c m.length d],I_ E]/\w'.ownsRow w.heap.size 9 1 (.slice f r.length l) r.length (sv r)/\w'.ownsRow w.heap.size 9 1 (.slice c m.length d) m.length (sv m)/\B_ V w') ((HS.out V D).mono (λe w2 k=>by obtain⟨f,l,c,d,X,h1,h2,h3⟩:=k;exact⟨_,X,f,l,c,d,rfl,zcX h1 D.size,zcX h2 D.size,h3⟩)) ?_;rintro v I⟨f,l,c,d,rfl,ac,ad,hb⟩;have u:=zm D hb
  rotate_left
  refine zy rfl 2 rfl (P_ V.heap.size 0) (V.alloc ?B0) (by go_simp) ?_;have H:=zC V ?B0;have u:=zm D H;have ab:=hN_ V ?B0;have af:=D.size;generalize hW':V.alloc ?B0=I at H u ab|-;clear hW';obtain⟨y,M⟩:∃y,y=V.heap.size:=⟨_,rfl⟩;rw[<-M]at ab af|-;have R:=H;clear M
  rotate_left
  refine zy rfl 3 rfl (P_ V.heap.size 0) (V.alloc ?A0) (by go_simp) ?_;have H:=zC V ?A0;have u:=zm D H;have Y:=hN_ V ?A0;have ae:=D.size;generalize hW':V.alloc ?A0=I at H u Y|-;clear hW';obtain⟨t,M⟩:∃t,t=V.heap.size:=⟨_,rfl⟩;rw[<-M]at Y ae|-;have R:=H;clear M
  rotate_left
  all_goals refine J.out _ _ ⟨zr u k0,zr u k2,zr u k3⟩ (λG=>?_)
  simp only[zf];refine tks_ 4 [(9,6,.tuple #[.agg #[I_ C,.slice f r.length l],.agg #[I_ z,I_ B,.slice c m.length d],I_ E]),(10,16,.agg #[I_ C,.slice f r.length l]),(11,17,.agg #[I_ z,I_ B,.slice c m.length d]),(12,18,I_ E)] G ?_;simp only[tkf_,zf];clear G;have h:=ba.out I f l c d u ac ad
  rotate_left
  clear G;have h:=be.out I y u ab af
  rotate_left
  clear G;have h:=a9.out I t u Y ae
  rotate_left
  all_goals
   rw[<-L.out]at h
   (try simp only[zf]at h)
   (try simp only[zf])
   exact aa.out _ _ _ _ h
 exact a8.out V0 ao
theorem zfz (f:List Ct)(s:Nat)(b:Q_)(c:Nat)(g:Q_)(j:Nat)(ds:List zi)(w:World)(d:zee w s f b c g j ds) :
  Calls prog 36 #[P_ s 0] w λe w'=>e=.returned (.slice b f.length c)/\w=w':=by
 have l:=zb d.box 0 _ rfl;clear d;go_in;go_wp2_with fail
 go_ret;exact⟨rfl,rfl⟩
theorem zl1 (n:Int)(w:World)(h:0<=n/\n<4) :
  Calls prog 81 #[I_ n] w λe w'=>e=.returned (I_ (zcs n))/\w=w':=by
 have b:IntKind.i64.wrap (n+1)=n+1:=by rw[IntKind.wrap_i64];omega
 go_in;go_wp2_with fail
 go_ret;exact⟨rfl,rfl⟩
theorem zql (k:Kn)(e:Int)(l:List CV)(i:Nat)(b:i<l.length):zn k e (l.take (i+1))=ziY k (zn k e (l.take i)) l[i]:=by
 rw[tS_ b,zn,List.foldl_append]
 rfl
theorem zkR (x:NM)(rd:Int)(w:World)(U:Nat->Bool)(F o:Nat)(T:TypeId)(L:X_)(h:zo w U F o T L x)(hr:1<=rd/\rd<=1048577) :
  Calls prog 83 #[P_ F o,I_ rd] w λe w'=>e=.returned (I_ (zn x.v.k (max (rd-1) 1) x.v.k.dag))/\B_ w w':=by
 have ai:∀(fn:Fn) (first J:X_) (w:World),(Instr.makeFunc fn first J).run prog w=.ok (.func fn first J) w:=λ_ _ _ _=>rfl;obtain⟨ca,cc,da,dc,A⟩:=h.stkAt;have I:=h.cell 6 _ rfl;have ae:IntKind.i64.wrap (rd-1)=rd-1:=by rw[IntKind.wrap_i64];omega
 have C:=zfz x.ls x.s ca cc da dc x.ds w A;have af:=A.at'.small;go_in;go_upto_region 1 with fail
 go_cut [5] (λu wx=>u=I_ (max (rd-1) 1)/\w=wx)
 case first=>
  clear C I;by_cases hm:1<=rd-1;have D:Hid (max (rd-1) 1=rd-1):=by show _=_;omega
  have ah:¬(rd-1<1):=by omega
  rotate_left
  have D:Hid (max (rd-1) 1=1):=by show _=_;omega
  rotate_left
  all_goals
   go_wp2_with fail
   all_goals
    go_meet
    case rel=>exact⟨by rw[D.out],rfl⟩
 case rest=>
  obtain⟨rfl,hw⟩:=hcut;subst hw;apply_assumption;have aa:1<=max (rd-1) 1/\max (rd-1) 1<=1048577:=by omega
  obtain⟨f,H⟩:∃f,f=max (rd-1) 1:=⟨_,rfl⟩;rw[<-H]at aa|-;have X:Hid _:=H;clear H;clear ae;go_wp2_with fail
  refine C.mono ?_;rintro _ w1⟨rfl,rfl⟩;dsimp only;clear C I;go_wp2_with fail
  go_loopw [17,5] (λj u wr=>∃(k:Nat) (E:Int),k<=x.ls.length/\j=I_ k/\u=I_ E/\Hid (E=zn x.v.k f (x.v.k.dag.take k))/\B_ w wr) (λj _ _=>x.ls.length-(intOf j).toNat)
  case atStart=>exact⟨0,f,nZ_ _,rfl,rfl,rfl,bR_ _ _⟩
  case round=>
   obtain⟨k,E,hk,rfl,rfl,M,q⟩:=hrel;by_cases hlt:k<x.ls.length
   .have ag:(k:Int)<x.ls.length:=by omega
    obtain⟨sb,so,ad,Z,c1,c2,c3,c4⟩:=(A.below q).at'.certs.at k hlt;have O:=(A.below q).at'.each _ (gM_ hlt);have R:k<x.v.k.dag.length:=by show k<(zI x.ls).length;rw[zbv];exact hlt
    have V:x.v.k.dag[k]=(x.ls[k]).v:=by show(zI x.ls)[k]'_=_;simp[zI]
    have t:Hid _:=zql x.v.k f x.v.k.dag k R;rw[V,<-M.out]at t;have h1:=h.below q;rw[ad];clear R V;generalize x.ls[k]=c at*;have G:=zC wr (.cells (crow_ c) 88);have B:=hN_ wr (.cells (crow_ c) 88);go_upto_region 5 with fail
    generalize wr.alloc (.cells (crow_ c) 88)=Y at G B|-;have m:=zm q G;have h0:=h.below m;have a1:=zb B 1 _ rfl;have a2:=zb B 2 _ rfl;have y:=(O.below G).hat.lb;have l:=zfe 69 #[P_ F o] #[] (λd=>!zb1 (shw x.sh) d) (eO_ func69) c.bl c.ba _ c.bc Y rfl y.small y.parts (λp hp W N=>zgX x p.bs p.sa _ p.cap W U F o T L (h0.below N) rfl ((y.parts.each p hp).below N));have b:Hid (ziY x.v.k E c.v=if c.rd<E/\(zT c.bl).any (λd=>!zb1 (shw x.sh) d)=true then c.rd else E):=rfl;generalize ac:(zT c.bl).any (λd=>!zb1 (shw x.sh) d)=r at l b;clear ac Z c1 c2 c3 c4 O y;by_cases hlc:c.rd<E;cases r with
    | true=>
     rw[iP_ ⟨hlc,rfl⟩]at b;go_wp2_with fail
     refine l.mono ?_;rintro _ w2⟨rfl,z⟩;dsimp only;clear l;have r1:=zb (zk z B) 1 _ rfl;go_wp2_with fail
     go_roundw
     case rel=>exact⟨k+1,c.rd,by omega,by go_num,rfl,by show _=_;rw[t.out,b.out],m.trans (z.mono m.size)⟩
     case measure=>simp[intOf];omega
    | false=>
     rw[iN_ (λg=>by cases g.2)]at b;go_wp2_with fail
     refine l.mono ?_;rintro _ w2⟨rfl,z⟩;dsimp only;clear l;go_wp2_with fail
     go_roundw
     case rel=>exact⟨k+1,E,by omega,by go_num,rfl,by show _=_;rw[t.out,b.out],m.trans (z.mono m.size)⟩
     case measure=>simp[intOf];omega
    rw[iN_ (λg=>hlc g.1)]at b;clear l;go_wp2_with fail
    go_roundw
    case rel=>exact⟨k+1,E,by omega,by go_num,rfl,by show _=_;rw[t.out,b.out],m⟩
    case measure=>simp[intOf];omega
   obtain rfl:k=x.ls.length:=by omega
   have ab:Hid (E=zn x.v.k f x.v.k.dag):=by
    show _=_;rw[M.out,tL_ (by show(zI x.ls).length<=_;rw[zbv];exact nR_ _)]
   go_wp2_with fail
   go_ret;exact⟨by rw[<-X.out,<-ab.out];rfl,q⟩
def zlf (f:FuncId)(caps:X_)(P:CV->Bool)(ps:List Ct)(w:World):Prop:=
 ∀c∈ps,∀W:World,B_ w W->Calls prog f (#[.agg (crow_ c)]++caps) W λe w'=>e=.returned (.bool (P c.v))/\B_ W w'
theorem zmE (f:FuncId)(q:X_)(P:CV->Bool)(R:∀u w,(callFunc f u).run prog w=.ok (.enter f u) w)(vl:List Ct)(B:Q_)(n D:Nat)(w:World)(d:n=vl.length)(T:vl.length<=9000000000000000000)(H:zba w B vl)(y:zlf f q P vl w) :
  Calls prog 130 #[.slice B n D,.func (.func f) #[] q] w λe w'=>B_ w w'/\∃r:Int,e=.returned (I_ r)/\(((zI vl).any P=true/\0<=r)\/((zI vl).any P=false/\r=-1)):=by
 subst d;have C:Hid (zlf f q P vl w):=y;clear y;go_in;go_wp2_with fail
 go_loopw [8] (λi wr=>∃m:Nat,m<=vl.length/\i=I_ m/\(∀s∈vl.take m,P s.v=false)/\B_ w wr) (λi _=>vl.length-(intOf i).toNat)
 case atStart=>exact⟨0,nZ_ _,rfl,(λs c=>by simp at c),bR_ _ _⟩
 case round=>
  obtain⟨m,V,rfl,g,j⟩:=hrel;by_cases hlt:m<vl.length
  .have A:=H.below j;obtain⟨X,Y,rfl,J,L,M,N,O⟩:=A.at m hlt;have U:(m:Int)<vl.length:=by omega
   have p:Hid (P (vl[m]).v=true->(zI vl).any P=true):=by
    show _->_;intro h;exact aT_.2 ⟨_,mM_.2 ⟨_,gM_ hlt,rfl⟩,h⟩
   have o:Hid (P (vl[m]).v=false->∀s∈vl.take (m+1),P s.v=false):=by
    show _->_;intro h s c;rw[zjN hlt]at c;rcases c with c|rfl;exact g s c;exact h
   have l:=C.out (vl[m]) (gM_ hlt) wr j;clear g A;generalize vl[m]=t at*;go_wp2_with fail
   refine l.mono ?_;rintro _ Z⟨rfl,F⟩;dsimp only;have z:=zm j F;cases hP:P t.v with
   | true=>
    have I:Hid _:=p.out hP;clear p o hP l;go_wp2_with fail
    go_ret;exact⟨z,(m:Int),rfl,.inl ⟨I.out,by omega⟩⟩
   | false=>
    have d:Hid _:=o.out hP;clear p o hP l;go_wp2_with fail
    go_roundw
    case rel=>exact⟨m+1,by omega,by go_num,d.out,z⟩
    case measure=>simp[intOf];omega
  obtain rfl:m=vl.length:=by omega
  have d:Hid ((zI vl).any P=false):=by
   show _=_;rw[tL_ (nR_ _)]at g;rw[List.any_eq_false];intro b E;obtain⟨s,c,rfl⟩:=mM_.1 E;rw[g s c];simp
  clear g;go_wp2_with fail
  go_ret;exact⟨j,(-1:Int),rfl,.inr ⟨d.out,rfl⟩⟩
theorem zky (f:FuncId)(d:X_)(P:CV->Bool)(t:∀j w,(callFunc f j).run prog w=.ok (.enter f j) w)(vl:List Ct)(g:Q_)(n l:Nat)(w:World)(y:n=vl.length)(u:vl.length<=9000000000000000000)(z:zba w g vl)(m:zlf f d P vl w) :
  Calls prog 196 #[.slice g n l,.func (.func f) #[] d] w λe w'=>e=.returned (.bool ((zI vl).any P))/\B_ w w':=by
 subst y;have q:=zmE f d P t vl g _ l w rfl u z m;clear m;go_in;go_wp2_with fail
 refine q.mono ?_;rintro e A⟨o,r,s,p⟩;subst s;dsimp only;rcases p with⟨b,p⟩|⟨b,rfl⟩
 all_goals
  have c:Hid _:=b;clear b;go_wp2_with fail
  go_ret;exact⟨zN (by rw[c.out]),o⟩
open Go.WideMaps Go.Maps
variable {r:Int}
theorem zv6:Keyed prog 3:=int_keyed underlying3
theorem zwK (w:World):(zeroValue 3).run prog w=.ok (.int .i64 0) w:=by kernel_rfl
theorem zyC (h:-9223372036854775808<=r/\r<=9223372036854775807):keyOf prog 3 (.int .i64 r)=some (.int .i64 r):=keyOf_int_mk underlying3 (WalkArith.wf_i64 h)
structure zh8 (D:DataW Unit)(l:List CV):Prop where
 map:IsMap D
 at':∀r:Int,D.atKey (.int .i64 r) (.lit (.int .i64 0))=.lit (.int .i64 (zhn l r))
theorem zh8.none:zh8 (.map []) []:=⟨⟨[],rfl⟩,λ_=>rfl⟩
theorem zh8.step {D:DataW Unit}{l:List CV}(h:zh8 D l)(c:CV):zh8 (D.put (.int .i64 c.rd) (.lit (.int .i64 ((zhn l c.rd:Int)+1)))) (l++[c]):=by
 refine⟨h.map.put _ _,λr=>?_⟩;by_cases hr:r=c.rd;subst hr;rw[atKey_put_same h.map (show WideAt.IsKeyLit (.int .i64 c.rd)from trivial),zjQ,iP_ rfl]
 rfl
 rw[atKey_put_other (by intro e;injection e with _ e;exact hr e),h.at',zjQ,iN_ (λe=>hr e.symm)]
 rfl
theorem zxw (l:List CV)(r:Int):zhn l r<=l.length:=List.length_filter_le _ _
theorem zhP {l:List CV}(h:zbV l=0){r:Int}(c:3<=(dgF l r).length):cnt l (r+1)<cnt l r/\r<=1048576:=by
 have b:=ztw l r 4 (by have:3<=(zc6 l r 4).length:=c;omega);refine⟨zx6 l r b,?_⟩;obtain⟨j,d,e⟩:=b;have:=zmk (zou h j d);omega
theorem zj3 (b:List Ct)(s:Nat)(ca:Q_)(cc:Nat)(da:Q_)(dc:Nat)(ds:List zi)(w:World)(E:zee w s b ca cc da dc ds)(M:zbV (zI b)=0) :
  Calls prog 35 #[.pointer (some (p_ s 0))] w λe w'=>∃r:Int,e=.returned (.int .i64 r)/\zgS (zI b) r/\B_ w w':=by
 have u:Hid _:=M;clear M;have am:=@run_makeMap prog;have z:=(bR_ w.heap.size w).alloc (nR_ _) (.map #[] 0);have V:=E.below z;have b0:=zb V.box 0 _ rfl;have ao:=E.at'.small;have aa:Hid (∀c∈b,1<=c.rd/\c.rd<=1048576):=by
  show ∀c,_;exact λc hc=>zmk (znZ u.out c hc)
 go_in;go_wp2_with fail
 go_loopw [13] (λj wr=>∃(m:Nat) (D:DataW Unit),m<=b.length/\j=.int .i64 m/\Hid (zh8 D ((zI b).take m))/\wr.ownsMap prog 3 (plainElem prog 3) w.heap.size m D/\B_ w wr) (λj _=>b.length-(intOf j).toNat)
 case atStart=>exact⟨0,.map [],nZ_ _,rfl,zh8.none,World.ownsMap_made _ _ _ _,z⟩
 case round=>
  clear b0 V z;obtain⟨m,D,hm,rfl,o,T,A⟩:=hrel;by_cases hlt:m<b.length
  .obtain⟨sb,so,rfl,c0,c1,c2,c3,c4⟩:=(E.below A).at'.certs.at m hlt;have al:(m:Int)<b.length:=by omega
   have ah:=aa.out _ (gM_ hlt);have ab:Hid ((zI b).take (m+1)=(zI b).take m++[(b[m]).v]):=by
    show _=_;rw[tS_ (by simp[zI];exact hlt)];simp[zI]
   have I:Hid (zhn ((zI b).take m) (b[m]).rd<=400):=by
    show _<=_;have l:=zxw ((zI b).take m) (b[m]).rd;rw[lT9_]at l;omega
   generalize b[m]=x at*;obtain⟨U,ag⟩:=ah;go_upto_region 5 with fail
   have J:=(bR_ wr.heap.size wr).alloc (nR_ _) (.cells (crow_ x) 88);have X:=hN_ wr (.cells (crow_ x) 88);have C:=T.alloc (.cells (crow_ x) 88);generalize wr.alloc (.cells (crow_ x) 88)=W2 at J X C|-;have L:=zm A J;have d1:=zb X 1 _ rfl;have p:=zyC (r:=x.rd) (by omega);obtain⟨c,ai,d,-⟩:=C.lookup_int zv6 underlying118 underlying3 (zwK _) p;rw[o.out.at']at d;obtain⟨N,f⟩:∃N:Nat,zhn ((zI b).take m) x.rd=N:=⟨_,rfl⟩;rw[f]at d;have ak:N<=400:=by rw[<-f];exact I.out
   obtain rfl:c=(N:Int):=by injection d with h;injection h with _ h;exact h.symm
   have t:Hid (zh8 (D.put (.int .i64 x.rd) (.lit (.int .i64 ((N:Int)+1)))) ((zI b).take (m+1))):=by
    show zh8 _ _;rw[ab.out,<-f];exact o.out.step x.v
   clear f d I c0 c1 c2 c3 c4;have aj:=plainElem_int (H:=Unit) underlying3 (WalkArith.wf_i64 (n:=(N:Int)+1) (by omega));go_wp2_with (at_mapUpdate;refine wpList_mapUpdate_own _ rfl _ _ _ 118 rfl 3 3 zv6 underlying118 _ w.heap.size m _ rfl C (by unfold maxLen;omega) _ _ _ rfl rfl p _ [] aj ?_;intro Y af ae)
   have ad:=L.grown ae L.size (λj hj=>by cases hj;exact nR_ _);go_roundw
   case rel=>
    have O:∃(q:Nat) (F:DataW Unit),q<=b.length/\(Value.int .i64 ((m:Int)+1))=.int .i64 q/\Hid (zh8 F ((zI b).take q))/\Y.ownsMap prog 3 (plainElem prog 3) w.heap.size q F/\B_ w Y:=
     ⟨m+1,_,by omega,by go_num,t,af,ad⟩
    first|exact O|((repeat apply Exists.intro);exact⟨O,rfl⟩)
   case measure=>simp[intOf];omega
  obtain rfl:m=b.length:=by omega
  have t:Hid (∀r,D.atKey (.int .i64 r) (.lit (.int .i64 0))=.lit (.int .i64 ((dgF (zI b) r).length:Int))):=by
   show ∀r,_;intro r;have h:=o.out.at' r;rw[tL_ (by rw[zbv];exact nR_ _)]at h;rw[zqQ u.out];exact h
  clear o;go_wp2_with fail
  go_loop [6] (λj=>∃r:Int,1<=r/\r<=1048577/\j=.int .i64 r/\Hid (∀k:Int,1<=k->k<r->3<=(dgF (zI b) k).length)) (λj=>cnt (zI b) (intOf j))
  case atStart=>exact⟨1,by decide,by decide,rfl,(show ∀k:Int,_ from λk l h2=>by omega)⟩
  case round=>
   obtain⟨r,U,ag,rfl,R⟩:=hrel;have p:=zyC (r:=r) (by omega);obtain⟨c,ai,d,-⟩:=T.lookup_int zv6 underlying118 underlying3 (zwK _) p;rw[t.out r]at d;obtain⟨N,f⟩:∃N:Nat,(dgF (zI b) r).length=N:=⟨_,rfl⟩;rw[f]at d;obtain rfl:c=(N:Int):=by injection d with h;injection h with _ h;exact h.symm
   have y:Hid _:=f;clear d f;by_cases h3:3<=N
   .have ac:(3:Int)<=N:=by omega
    have B:=zhP u.out (r:=r) (by rw[y.out];exact h3);have G:Hid (cnt (zI b) (r+1)<cnt (zI b) r):=B.1;have an:=B.2;clear B;have ap:IntKind.i64.wrap (r+1)=r+1:=by rw[IntKind.wrap_i64];omega
    go_wp2_with fail
    go_round
    case rel=>
     refine⟨r+1,by omega,by omega,rfl,(show ∀k:Int,_ from λk l h2=>?_)⟩;rcases Int.lt_or_le k r with g|g;exact R.out k l g;obtain rfl:k=r:=by omega
     rw[y.out];exact h3
    case measure=>first|exact G.out|(simp only[intOf];exact G.out)
   have ac:¬(3:Int)<=N:=by omega
   have Z:Hid (zgS (zI b) r):=⟨U,R.out,by rw[y.out];omega⟩;go_wp2_with fail
   go_ret;exact⟨r,rfl,Z.out,A⟩
theorem zuo {l:List CV}(j:zbV l=0):∀(f:Nat) (r:Int),1<=r->(∀k:Int,1<=k->k<r->3<=(dgF l k).length)->cnt l r<=f->zgS l (zlI l r f):=by
 intro f
 induction f with
 | zero=>
  intro r d c m;refine⟨d,c,?_⟩;show(dgF l r).length<3;by_cases g:3<=(dgF l r).length;have:=(zhP j g).1;omega;omega
 | succ f ih=>
  intro r d c m;rw[zlI,<-zqQ j r];by_cases g:3<=(dgF l r).length;rw[iP_ g];refine ih (r+1) (by omega) (λk a b=>?_) (by have:=(zhP j g).1;omega);by_cases e:k=r;subst e;exact g;exact c k a (by omega);rw[iN_ g];exact⟨d,c,by omega⟩
theorem zhs {l:List CV}(c:zbV l=0):zgS l (zdi l):=
 zuo c l.length 1 (by decide) (λk a b=>by omega) (List.length_filter_le _ _)
theorem zqm {l:List CV}(h:zbV l=0):1<=zdi l/\zdi l<=1048577:=by
 obtain⟨b,c,_⟩:=zhs h;refine⟨b,?_⟩;by_cases g:zdi l<=1;omega;have:=(zhP h (c (zdi l-1) (by omega) (by omega))).2;omega
theorem zsf (p:zi)(ys:L_)(c:Q_)(d b:Nat)(w:World)(l:zg w p.sa p.cap p.bs)(j:zg w c d ys)(m:C_ w b 0 (.slice c ys.length d)) :
  Calls prog 194 #[.slice p.sa p.bs.length p.cap,(P_ b 0)] w λe w'=>e=.returned (.bool (decide (zai p.bs=zai ys)))/\B_ w w':=by
 have f:Hid (decide (txL p.bs=txL ys)=decide (zai p.bs=zai ys)):=decide_eq_decide.2 zoN;go_in;go_wp2_with fail
 refine(zeI p.bs ys _ _ _ _ _ _ w rfl rfl l j).mono ?_;rintro _ o⟨rfl,rfl⟩;dsimp only;go_wp2_with fail
 go_ret;exact⟨by rw[f.out];rfl,bR_ _ _⟩
theorem zsg (c:Ct)(f:Int)(ys:L_)(M:Q_)(N C D g F o:Nat)(w:World)(k1:C_ w C 0 (P_ F o))(k0:C_ w F o (I_ f))(k2:C_ w D 0 (.func (.func 194) #[] #[P_ g 0]))(hg:C_ w g 0 (.slice M ys.length N))(hk:zg w M N ys)(hc:za7 w c) :
  Calls prog 195 #[.agg (crow_ c),(P_ C 0),(P_ D 0)] w λe w'=>e=.returned (.bool (decide (c.v.au=f)&&c.v.bl.any λx=>decide (zai x=zai ys)))/\B_ w w':=by
 have b:=zC w (.cells (crow_ c) 88);have A:=hN_ w (.cells (crow_ c) 88);go_in;go_upto_region 1 with fail
 generalize w.alloc (.cells (crow_ c) 88)=y at b A|-;have X:=zr b k1;have U:=zr b k0;have Y:=zr b k2;have Z:=zr b hg;have E:=(hc.below b).hat.lb;have aa:=hk.below b;generalize w.heap.size=B at A|-;have R:=zb A 0 _ rfl;have T:=zb A 2 _ rfl;refine kV_ ?A0 ?_;exact Value.slice c.ba c.bl.length c.bc;have O:Hid (∀V:World,B_ y V->Calls prog 133 #[?A0,.func (.func 194) #[] #[P_ g 0]] V λe w'=>e=.returned (.bool ((zT c.bl).any λx=>decide (zai x=zai ys)))/\B_ V w'):=by
  show ∀V,_;intro V z;exact zfe 194 #[] #[P_ g 0] (λx=>decide (zai x=zai ys)) (eO_ func194) c.bl c.ba _ c.bc V rfl E.small (E.below z).parts (λp hp W L=>zsf p ys M N g W (((E.below z).parts.each p hp).below L) ((aa.below z).below L) (((z.trans (L.mono z.size)).cell (p:=p_ g 0) (bL_ Z)).trans Z))
 have H:Hid (c.v.au=c.au/\c.v.bl=zT c.bl):=⟨rfl,rfl⟩;generalize hR:((zT c.bl).any λx=>decide (zai x=zai ys))=r at O;have HR:Hid _:=hR;clear hR E aa A;by_cases e:c.au=f;have J:(c.au == f)=true:=by simpa using e
 rotate_left
 have J:(c.au == f)=false:=by simpa using e
 rotate_left
 all_goals
  have G:Hid _:=e;clear e;have t:=dB_ y;have j:=dC_ R;have l:=dC_ T;have q:=dC_ X;have m:=dC_ U;have s:=dC_ Y;refine wR_ (S:=λw'=>C_ w' B 0 (I_ c.au)/\C_ w' B 2 ?A0/\C_ w' C 0 (P_ F o)/\C_ w' F o (I_ f)/\C_ w' D 0 (.func (.func 194) #[] #[P_ g 0])) (by kernel_rfl) ⟨j,l,q,m,s⟩ (λd=>?_);generalize y.drew=I at t j l q m s d|-;refine tks_ 8 [(0,5,(P_ B 0)),(1,6,(P_ B 0)),(2,7,I_ c.au),(3,8,(P_ F o)),(4,9,(P_ F o)),(5,10,(P_ F o)),(6,11,I_ f),(7,12,.bool (c.au == f))] d ?_;simp only[tkf_,zf];rw[J]
 refine tks_ 5 [(8,13,.bool true),(9,14,(P_ B 0)),(10,15,(P_ B 2)),(11,16,.slice c.ba c.bl.length c.bc),(12,17,.func (.func 194) #[] #[P_ g 0])] d ?_;simp only[tkf_,zf];refine zE 13 rfl (λK9 hK=>?_);refine zaJ (by rfl) 18 rfl 133 [.tmp 16,.tmp 17] #[58,134] rfl [?A0,.func (.func 194) #[] #[P_ g 0]] rfl (eO_ func133) (λv w'=>v=.bool r/\B_ I w') ((O.out I t).mono (λe w' k=>⟨_,k.1,rfl,k.2⟩)) ?_;rintro v V1⟨rfl,u⟩;have ag:=zm t u;have ab:=zr u j;have ac:=zr u l;have ae:=zr u q;have ad:=zr u m;have af:=zr u s;refine hK.out _ _ ⟨ab,ac,ae,ad,af⟩ (λd=>?_);simp only[zf];refine tks_ 2 [(14,19,.bool r),(15,4,.bool r)] d ?_
 rotate_left
 refine tks_ 8 [(8,13,.bool false),(9,14,undef),(10,15,undef),(11,16,undef),(12,17,undef),(13,18,undef),(14,19,.bool false),(15,4,.bool false)] d ?_
 rotate_left
 all_goals
  simp only[tkf_,zf];clear d;refine wD_ (by kernel_rfl) ?_ _;go_wp2_with fail
  go_ret
 exact⟨by rw[H.out.1,H.out.2,HR.out,G.out];simp,b.trans (ag.mono b.size)⟩;exact⟨by rw[H.out.1,dF_ G.out];rfl,b.trans (t.mono b.size)⟩
theorem zsh (x:NM)(ys:L_)(b:Q_)(kn d:Nat)(w:World)(U:Nat->Bool)(F o:Nat)(T:TypeId)(fc:X_)(h:zo w U F o T fc x)(ab:kn=ys.length)(hk:zg w b d ys) :
  Calls prog 166 #[P_ F o,.slice b kn d] w λe w'=>e=.returned (.bool (zin x.v.k x.nu ys))/\B_ w w':=by
 subst ab;have ad:∀(fn:Fn) (first L:X_) (w:World),(Instr.makeFunc fn first L).run prog w=.ok (.func fn first L) w:=λ_ _ _ _=>rfl;have ae:∀(a:Addr) (fn:Fn) (C f:X_) (m:Mode) (w:World),(store a (.func fn C f) m).run prog w=stored prog w a (.func fn C f) m:=λa fn C f m w=>run_store _ w a _ m rfl;refine kO_ ?A0 ?_;exact Obj.cells #[.slice b ys.length d] 61;have E:B_ w ((w.alloc (.cells #[P_ F o] 80)).alloc ?A0):=((bR_ _ _).alloc (nR_ _) _).alloc (by simp) _;have t:=hX_ w (.cells #[P_ F o] 80) ?A0;have u:=hY_ w (.cells #[P_ F o] 80) ?A0;go_in;go_upto_region 1 with fail
 generalize (w.alloc (.cells #[P_ F o] 80)).alloc ?A0=q at E t u|-;generalize w.heap.size+1=j at u|-;generalize Y:w.heap.size=R at t|-;have ac:Hid _:=Y;clear Y;refine kO_ ?B0 ?_;exact Obj.cells #[.func (.func 194) #[] #[P_ j 0]] 134;have y:=hN_ q ?B0;have s:=zC q ?B0;have H:=zk s t;have I:=zk s u;have l:=zm E s;go_upto_region 3 with fail
 generalize q.alloc ?B0=B at l H I y|-;generalize q.heap.size=V at y|-;clear E t u s;have D:=h.below l;have Z:=hk.below l;have d0:=zb H 0 _ rfl;have N:=zb I 0 _ rfl;have O:=zb y 0 (.func (.func 194) #[] #[P_ j 0]) rfl;have k0:C_ B F o (I_ x.nu):=D.cell 0 _ rfl;have c6:=D.cell 6 _ rfl;obtain⟨f,M,da,dc,p⟩:=D.stkAt;have J:=zfz x.ls x.s f M da dc x.ds B p;have A:=zky 195 #[P_ R 0,(P_ V 0)] (λc=>decide (c.au=x.nu)&&c.bl.any λz=>decide (zai z=zai ys)) (eO_ func195) x.ls f _ M B rfl (by have:=p.at'.small;omega) p.at'.certs (λc hc W g=>zsg c x.nu ys b d R V j F o W (zr g d0) (zr g k0) (zr g O) (zr g N) (Z.below g) ((p.at'.each c hc).below g));have X:Hid ((zI x.ls).any (λc=>decide (c.au=x.nu)&&c.bl.any λz=>decide (zai z=zai ys))=zin x.v.k x.nu ys):=rfl;generalize (zI x.ls).any (λc=>decide (c.au=x.nu)&&c.bl.any λz=>decide (zai z=zai ys))=r at A X;clear H I y k0 N O Z p;go_wp2_with fail
 refine J.mono ?_;rintro _ w1⟨rfl,rfl⟩;dsimp only;clear J;go_wp2_with fail
 refine A.mono ?_;rintro _ w1⟨rfl,aa⟩;dsimp only;clear A;go_wp2_with fail
 go_ret;exact⟨by rw[X.out];rfl,l.trans (aa.mono l.size)⟩
theorem zqn (c:List Ct)(s:Nat)(ca:Q_)(cc:Nat)(da:Q_)(dc:Nat)(ds:List zi)(rd:Int)(w:World)(y:zee w s c ca cc da dc ds)(ad:∀p∈ds,p.bs.length<=140737488355328) :
  Calls prog 124 #[P_ s 0,I_ rd] w λe w'=>∃E mc ms,e=.returned (.slice E (List.length ms) mc)/\zT ms=dgF (zI c) rd/\zx w' E mc ms/\za1 w.heap.size E ms/\B_ w w'/\(∀F H,E=some (p_ F H)->F<w'.heap.size):=by
 obtain⟨i,hi,an,ao,ap⟩:=info_parts zhc;have aw:=y.at'.small;have HL:Hid (ds.length=c.length):=y.at'.len;have ae:Hid (zT ds=(zI c).map CV.d):=y.at'.same;go_in;go_wp2_with fail
 go_loopw [8,5] (λj v wr=>∃(m:Nat) (ms:List zi),m<=4/\j=I_ m/\zT ms=zc6 (zI c) rd m/\z8 wr w.heap.size v ms/\wr.ownsRow w.heap.size 61 1 v ms.length (pv ms)/\B_ w wr) (λj _ _=>4-(intOf j).toNat)
 case atStart=>exact⟨0,[],nZ_ _,rfl,rfl,(λp Y=>by cases Y),oN_ _ _ _ _,bR_ _ _⟩
 case round=>
  obtain⟨m,ms,hm,rfl,g,O,V,T⟩:=hrel;have Z:=y.below T;have av:ms.length<=m:=by
   have:=cA_ List.length g;rw[zcQ]at this;rw[this];exact zpX _ _ _
  by_cases hlt:m<4
  .have au:(m:Int)<4:=by omega
   have M:Hid (0<=cOf (zI c) m rd->zc6 (zI c) rd (m+1)=zT ms++[(zaM (zI c) (cOf (zI c) m rd).toNat).d]):=by
    show _->_;intro h;rw[zc6,iP_ h,g]
   have L:Hid (¬0<=cOf (zI c) m rd->zT ms=zc6 (zI c) rd (m+1)):=by
    show _->_;intro h;rw[zc6,iN_ h,g]
   have hB:=zlB (zI c) m rd;rw[zbv]at hB;clear g;go_wp2_with fail
   refine(ztI c s ca cc da dc ds m rd wr Z).mono ?_;rintro _ A⟨rfl,t⟩;dsimp only;have N:=zm T t;have X:=zw V t;have D:=Z.below t;have t1:=zb D.box 1 _ rfl;have aa:z8 A w.heap.size _ ms:=O.same t.size (λp Y b H e=>t.block b ((O p Y).2 b H e).2.1);generalize cOf (zI c) m rd=r at*;by_cases hr:0<=r
   .obtain⟨k,rfl⟩:∃k:Nat,r=k:=⟨r.toNat,by omega⟩;have l:k<ds.length:=by rw[HL.out];omega
    have ar:(k:Int)<c.length:=by omega
    have I:=M.out hr;rw[Int.toNat_natCast,zov ae.out k l]at I;have J:Hid (zc6 (zI c) rd (m+1)=zT ms++[(ds[k]).bs]):=I;clear M L I;rcases D.at'.digs.parts.cells with C|⟨db,aq,rfl,C⟩;rw[C]at l;simp at l;have ck:=C k l;have hx:=D.at'.digs.parts.each (ds[k]) (gM_ l);have am:=ad (ds[k]) (gM_ l);clear C D Z y ad;generalize ds[k]=p at*;go_wp2_with fail
    refine(zeH p.bs p.sa _ p.cap A rfl hx am).mono ?_;rintro e w2⟨z,rc,U,al,ak,R⟩;subst U;dsimp only;have B:=zm N R;have ac:=zw X R;go_wp2_with (at_builtin;refine wpList_append_own_at _ rfl _ _ 58 rfl w.heap.size 61 i (O_) 1 24 underlying58 hi an ao ap rfl (by decide) _ ms.length _ rfl (oA_ ac _) (p_ w2.heap.size 0) 1 1 [.slice z p.bs.length rc] rfl rfl (zag _ _ _) (by intro u hu;simp at hu;subst hu;rfl) (by unfold maxLen;omega) (by omega) (zB B.size _) ?_;intro v1 w3 aj ab _ ah)
    have G:=zV.of ab ah;have ag:=aa.more_at (q:=⟨z,rc,p.bs⟩) N.size X R ak al G;have af:=Below.grown (B.alloc B.size _) ab (zB B.size _) (λq e=>(ac.lt q e).1);go_roundw
    case rel=>
     have o:∃(f:Nat) (d:List zi),f<=4/\(Value.int .i64 ((m:Int)+1))=I_ f/\zT d=zc6 (zI c) rd f/\z8 w3 w.heap.size v1 d/\w3.ownsRow w.heap.size 61 1 v1 d.length (pv d)/\B_ w w3:=
      ⟨m+1,ms++[⟨z,rc,p.bs⟩],by omega,by go_num,by rw[J.out];simp[zT],ag,by simpa[pv,zi.val]using aj,af⟩
     first|exact o|((repeat apply Exists.intro);exact⟨o,rfl⟩)
    case measure=>simp[intOf];omega
   have J:Hid (zT ms=zc6 (zI c) rd (m+1)):=L.out (by omega);obtain rfl:r=-1:=by omega
   clear M L;go_wp2_with fail
   go_roundw
   case rel=>
    have o:∃(f:Nat) (d:List zi),f<=4/\(Value.int .i64 ((m:Int)+1))=I_ f/\zT d=zc6 (zI c) rd f/\z8 A w.heap.size u5 d/\A.ownsRow w.heap.size 61 1 u5 d.length (pv d)/\B_ w A:=
     ⟨m+1,ms,by omega,by go_num,J.out,aa,X,N⟩
    first|exact o|((repeat apply Exists.intro);exact⟨o,rfl⟩)
   case measure=>simp[intOf];omega
  obtain rfl:m=4:=by omega
  have HM:Hid (zT ms=dgF (zI c) rd):=g;clear g;obtain⟨z,rc,hv,hl,hL,ai⟩:=zcI V O;subst hv;go_wp2_with fail
  go_ret;exact⟨z,rc,ms,rfl,HM.out,hL (by omega),ai,T,λF H e=>(V.lt F (by rw[e];rfl)).2⟩
theorem zqo (k:Kn)(b:Int)(a:List (L_))(l:List BW)(i:Nat)(c:i<l.length):zb2 k b a (l.take (i+1))=zgT k b (zb2 k b a (l.take i)) l[i]:=by
 rw[tS_ c,zb2,List.foldl_append]
 rfl
theorem zqp (k:Kn)(c:Int)(l:List BW):∀a:List (L_),a.length=3->zb2 k c a l=a:=by
 induction l with
 | nil=>intro a _;rfl
 | cons b l ih=>
  intro a h;show zb2 k c (zgT k c a b) l=a;have e:zgT k c a b=a:=by rw[zgT,iP_ h]
  rw[e];exact ih a h
theorem zqq (k:Kn)(b:Int)(a:List (L_))(l:List BW)(i:Nat)(h:(zb2 k b a (l.take i)).length=3):zb2 k b a l=zb2 k b a (l.take i):=by
 have e:zb2 k b a (l.take i++l.drop i)=zb2 k b (zb2 k b a (l.take i)) (l.drop i):=List.foldl_append;rw[List.take_append_drop]at e;rw[e];exact zqp _ _ _ _ h
structure zyD (w w':World)(e:Ending)(x:NM):Prop where
 out:∃ma mc ms,e=.returned (.slice ma (List.length ms) mc)/\zT ms=zb2 x.v.k x.nu [] x.v.k.sh/\ms.length<=3/\w'.ownsRow w.heap.size 61 1 (.slice ma ms.length mc) ms.length (pv ms)/\(∀p∈ms,∃s∈x.sh,p=s.d)/\B_ w w'
theorem zup (x:NM)(w:World)(U:Nat->Bool)(F o:Nat)(T:TypeId)(fc:X_)(h:zo w U F o T fc x) :
  Calls prog 123 #[P_ F o] w λe w'=>zyD w w' e x:=by
 obtain⟨ti,aw,ax,ay,az⟩:=info_parts zhc;have c4:=h.cell 4 _ rfl;have aA:x.sh.length<=800:=by have:=h.inv.sh;simpa[NM.v,shw]using this
 have ae:Hid (x.v.k.sh.length=x.sh.length):=zb6 _;go_in;go_wp2_with fail
 go_loopw [11,3] (λj v wr=>∃(k:Nat) (ms:List zi),k<=x.sh.length/\j=I_ k/\Hid (zT ms=zb2 x.v.k x.nu [] (x.v.k.sh.take k))/\ms.length<=3/\wr.ownsRow w.heap.size 61 1 v ms.length (pv ms)/\Hid (∀p∈ms,∃s∈x.sh,p=s.d)/\B_ w wr) (λj _ _=>x.sh.length-(intOf j).toNat)
 case atStart=>exact⟨0,[],nZ_ _,rfl,rfl,nZ_ _,oN_ _ _ _ _,(λp hp=>by cases hp),bR_ _ _⟩
 case round=>
  obtain⟨k,ms,hk,rfl,Z,X,ho,I,hb⟩:=hrel;obtain⟨va,vc,hv⟩:=zH ho;subst hv;clear c4;by_cases hlt:k<x.sh.length
  .have aC:(k:Int)<x.sh.length:=by omega
   have hr:=h.below hb;obtain⟨sb,so,au,c0,c1,c2,c3⟩:=hr.shs.at k hlt;have ad:=h.esh _ (gM_ hlt);have av:=gM_ hlt;have ag:k<x.v.k.sh.length:=by rw[ae.out];exact hlt
   have ah:x.v.k.sh[k]=(x.sh[k]).b.v:=by show(shw x.sh)[k]'_=_;simp[shw]
   have O:Hid _:=zqo x.v.k x.nu [] x.v.k.sh k ag;rw[ah,<-Z.out]at O;rw[au];clear ag ah;generalize x.sh[k]=s at*;refine kV_ ?A0 ?_;exact Value.slice s.d.sa s.d.bs.length s.d.cap;refine kO_ ?B0 ?_;exact Obj.cells #[I_ s.b.v.au,I_ s.b.v.nu,.slice s.b.ta s.b.v.ss.length s.b.tc,?A0] 102;have Y:=zC wr ?B0;have N:=hN_ wr ?B0;go_upto_region 5 with fail
   generalize wr.alloc ?B0=t at Y N|-;generalize wr.heap.size=B at N|-;have D:=zm hb Y;have h0:=h.below D;have aa:=zw ho Y;have a0:=zb N 0 _ rfl;have a3:=zb N 3 _ rfl;have k0:C_ t F o (I_ x.nu):=h0.cell 0 _ rfl;clear ho c0 c1 c2 c3 hr N Y;by_cases he3:ms.length=3
   .have HM:Hid (zT ms=zb2 x.v.k x.nu [] x.v.k.sh):=by
     show _=_;rw[zqq x.v.k x.nu [] x.v.k.sh k (by rw[<-Z.out,zcQ];exact he3),Z.out]
    have an:(ms.length:Int)=3:=by omega
    have ab:Hid _:=he3;clear he3 X;go_wp2_with fail
    go_ret;exact⟨va,vc,ms,rfl,HM.out,by have:=ab.out;omega,aa,I.out,D⟩
   have an:¬(ms.length:Int)=3:=by omega
   have ac:Hid (∀V:World,B_ t V->Calls prog 166 #[P_ F o,?A0] V λe w'=>e=.returned (.bool (zin x.v.k x.nu s.b.v.d))/\B_ V w'):=by
    show ∀V,_;intro V hV;rw[<-ad.e];have af:=zm D hV;exact zsh x s.d.bs s.d.sa _ s.d.cap V U F o T fc (h.below af) rfl ((ad.d.sub (zK _ _)).below af)
   have z:Hid (zgT x.v.k x.nu (zT ms) s.b.v=if s.b.v.au=x.nu/\zin x.v.k x.nu s.b.v.d=false then zT ms++[s.b.v.d]else zT ms):=by
    show _=_;rw[zgT,iN_ (by rw[zcQ];exact he3)]
   have ab:Hid (¬ms.length=3):=he3;clear he3;generalize ar:zin x.v.k x.nu s.b.v.d=r at ac z;clear ar;by_cases e:s.b.v.au=x.nu;have R:(s.b.v.au == x.nu)=true:=by simpa using e
   cases r with
   | true=>
    rw[iN_ (λg=>by cases g.2)]at z;clear e;go_upto_region 6 with fail
    have c:=dB_ t;have d:=dC_ a0;have f:=dC_ a3;have l:=dC_ k0;refine wR_ (S:=λw'=>C_ w' B 0 (I_ s.b.v.au)/\C_ w' B 3 ?A0/\C_ w' F o (I_ x.nu)) (by kernel_rfl) ⟨d,f,l⟩ (λb=>?_);generalize t.drew=A at c d f l b|-;refine tks_ 8 [(0,18,(P_ B 0)),(1,19,(P_ B 0)),(2,20,I_ s.b.v.au),(3,21,(P_ F o)),(4,22,(P_ F o)),(5,23,(P_ F o)),(6,24,I_ x.nu),(7,25,.bool (s.b.v.au == x.nu))] b ?_;simp only[tkf_,zf];rw[R];refine tks_ 4 [(8,26,.bool true),(9,27,(P_ F o)),(10,28,(P_ B 3)),(11,29,.slice s.d.sa s.d.bs.length s.d.cap)] b ?_;simp only[tkf_,zf];refine zE 12 rfl (λK9 hK=>?_);refine zaJ (by rfl) 30 rfl 166 [.tmp 27,.tmp 29] #[80,61] rfl [P_ F o,?A0] rfl (eO_ func166) (λv w'=>v=.bool true/\B_ A w') ((ac.out A c).mono (λe w' k=>⟨_,k.1,rfl,k.2⟩)) ?_;rintro v V1⟨rfl,m⟩;have J:=zm c m;have C:=zr m d;have H:=zr m f;have G:=zr m l;refine hK.out _ _ ⟨C,H,G⟩ (λb=>?_);simp only[zf];refine tks_ 2 [(13,31,.bool false),(14,32,.bool false)] b ?_;simp only[tkf_,zf];clear b;refine wD_ (by kernel_rfl) ?_ _;have y:=zm D J;have E:=zw aa J;obtain⟨W2,L⟩:∃W,W=V1:=⟨_,rfl⟩;rw[<-L]at y E C H G|-;clear L;go_wp2_with fail
    go_roundw
    case rel=>exact⟨k+1,ms,by omega,by go_num,by show _=_;rw[O.out,z.out],X,E,I,y⟩
    case measure=>simp[intOf];omega
   | false=>
    rw[iP_ ⟨e,rfl⟩]at z;clear e;go_upto_region 6 with fail
    have c:=dB_ t;have d:=dC_ a0;have f:=dC_ a3;have l:=dC_ k0;refine wR_ (S:=λw'=>C_ w' B 0 (I_ s.b.v.au)/\C_ w' B 3 ?A0/\C_ w' F o (I_ x.nu)) (by kernel_rfl) ⟨d,f,l⟩ (λb=>?_);generalize t.drew=A at c d f l b|-;refine tks_ 8 [(0,18,(P_ B 0)),(1,19,(P_ B 0)),(2,20,I_ s.b.v.au),(3,21,(P_ F o)),(4,22,(P_ F o)),(5,23,(P_ F o)),(6,24,I_ x.nu),(7,25,.bool (s.b.v.au == x.nu))] b ?_;simp only[tkf_,zf];rw[R];refine tks_ 4 [(8,26,.bool true),(9,27,(P_ F o)),(10,28,(P_ B 3)),(11,29,.slice s.d.sa s.d.bs.length s.d.cap)] b ?_;simp only[tkf_,zf];refine zE 12 rfl (λK9 hK=>?_);refine zaJ (by rfl) 30 rfl 166 [.tmp 27,.tmp 29] #[80,61] rfl [P_ F o,?A0] rfl (eO_ func166) (λv w'=>v=.bool false/\B_ A w') ((ac.out A c).mono (λe w' k=>⟨_,k.1,rfl,k.2⟩)) ?_;rintro v V1⟨rfl,m⟩;have J:=zm c m;have C:=zr m d;have H:=zr m f;have G:=zr m l;refine hK.out _ _ ⟨C,H,G⟩ (λb=>?_);simp only[zf];refine tks_ 2 [(13,31,.bool true),(14,32,.bool true)] b ?_;simp only[tkf_,zf];clear b;refine wD_ (by kernel_rfl) ?_ _;have y:=zm D J;have E:=zw aa J;obtain⟨W2,L⟩:∃W,W=V1:=⟨_,rfl⟩;rw[<-L]at y E C H G|-;clear L;clear C G;go_wp2_with (at_builtin;refine wpList_append_own_at _ rfl _ _ 58 rfl w.heap.size 61 ti (O_) 1 24 underlying58 aw ax ay az rfl (by decide) _ ms.length _ rfl (oA_ E _) (p_ W2.heap.size 0) 1 1 [?A0] rfl rfl (zag _ _ _) (by intro u hu;simp at hu;subst hu;rfl) (by unfold maxLen;omega) (by omega) (zB y.size _) ?_;intro v1 w3 ap ao _ aB)
    have ai:=Below.grown (y.alloc y.size _) ao (zB y.size _) (λq e=>(E.lt q e).1);have ak:Hid (∀p∈ms++[s.d],∃s∈x.sh,p=s.d):=by
     show ∀p,_;intro p hp;rcases mA_.1 hp with g|g;exact I.out p g;exact⟨s,av,mS_.1 g⟩
    have al:(ms++[s.d]).length<=3:=by have:=ab.out;rw[lP_];simp;omega
    have am:Hid (zT (ms++[s.d])=zb2 x.v.k x.nu [] (x.v.k.sh.take (k+1))):=by
     show _=_;rw[O.out,z.out,<-ad.e];simp[zT]
    go_roundw
    case rel=>
     have hR:∃(k':Nat) (M:List zi),k'<=x.sh.length/\(Value.int .i64 ((k:Int)+1))=I_ k'/\Hid (zT M=zb2 x.v.k x.nu [] (x.v.k.sh.take k'))/\M.length<=3/\w3.ownsRow w.heap.size 61 1 v1 M.length (pv M)/\Hid (∀p∈M,∃s∈x.sh,p=s.d)/\B_ w w3:=
      ⟨k+1,ms++[s.d],by omega,by go_num,am,al,by simpa[pv,zi.val]using ap,ak,ai⟩
     first|exact hR|((repeat apply Exists.intro);exact⟨hR,rfl⟩)
    case measure=>simp[intOf];omega
   have R:(s.b.v.au == x.nu)=false:=by simpa using e
   rw[iN_ (λg=>e g.1)]at z;clear e;go_upto_region 6 with fail
   have c:=dB_ t;have d:=dC_ a0;have f:=dC_ a3;have l:=dC_ k0;refine wR_ (S:=λw'=>C_ w' B 0 (I_ s.b.v.au)/\C_ w' B 3 ?A0/\C_ w' F o (I_ x.nu)) (by kernel_rfl) ⟨d,f,l⟩ (λb=>?_);generalize t.drew=A at c d f l b|-;refine tks_ 8 [(0,18,(P_ B 0)),(1,19,(P_ B 0)),(2,20,I_ s.b.v.au),(3,21,(P_ F o)),(4,22,(P_ F o)),(5,23,(P_ F o)),(6,24,I_ x.nu),(7,25,.bool (s.b.v.au == x.nu))] b ?_;simp only[tkf_,zf];rw[R];refine tks_ 7 [(8,26,.bool false),(9,27,undef),(10,28,undef),(11,29,undef),(12,30,undef),(13,31,undef),(14,32,.bool false)] b ?_;simp only[tkf_,zf];clear b;refine wD_ (by kernel_rfl) ?_ _;have aj:=zm D c;have aq:=zw aa c;go_wp2_with fail
   go_roundw
   case rel=>exact⟨k+1,ms,by omega,by go_num,by show _=_;rw[O.out,z.out],X,aq,I,aj⟩
   case measure=>simp[intOf];omega
  obtain rfl:k=x.sh.length:=by omega
  have HM:Hid (zT ms=zb2 x.v.k x.nu [] x.v.k.sh):=by
   show _=_;rw[Z.out,tL_ (by rw[ae.out];exact nR_ _)]
  go_wp2_with fail
  go_ret;exact⟨va,vc,ms,rfl,HM.out,X,ho,I.out,hb⟩
theorem zq8 (s:L_)(k:Nat):∀x∈zdg s k,0<=x/\x<=255:=by
 induction k with
 | zero=>intro x b;cases b
 | succ k ih=>
  intro x b;rw[zdg]at b;rcases mA_.1 b with h|h;exact ih x h
  simp at h
  omega
theorem zzg (au rd:Int)(bl pl:List zi):∀x∈zaE au rd bl pl,0<=x/\x<=255:=zq8 _ _
variable {U:Nat->Bool}{F o:Nat}{fc:X_}{T:TypeId}{x:NM}{rd:Int}
theorem zv7 (k:Kn)(f:Int)(l:List BW):∀(a:List (L_)) (d:L_),d∈zb2 k f a l->d∈a\/∃b∈l,d=b.d:=by
 induction l with
 | nil=>intro a d h;exact .inl h
 | cons b l ih=>
  intro a d h;rcases ih (zgT k f a b) d h with g|⟨c,j,g⟩;rw[zgT]at g
  split at g
  exact .inl g
  split at g
  rcases mA_.1 g with q|q;exact .inl q;exact .inr ⟨b,List.mem_cons_self ..,mS_.1 q⟩;exact .inl g;exact .inr ⟨c,mC_ _ j,g⟩
theorem zxx {k:Kn}{d:Int}{l:List BW}{ms:List zi}(h:zT ms=zb2 k d [] l):U8L ms:=by
 intro p f;have c:p.bs∈zT ms:=mM_.2 ⟨p,f,rfl⟩;rw[h]at c;rcases zv7 k d l [] p.bs c with g|⟨b,_,g⟩;cases g;rw[g];exact zq8 _ _
theorem zxy (l:List CV)(rd:Int)(n:Nat):∀d∈zc6 l rd n,∀x∈d,0<=x/\x<=255:=by
 induction n with
 | zero=>intro d b;cases b
 | succ n ih=>
  intro d b;rw[zc6]at b
  split at b
  rcases mA_.1 b with g|g;exact ih d g;rw[mS_.1 g];exact zzg _ _ _ _;exact ih d b
theorem zzh {l:List CV}{ms:List zi}(h:zT ms=dgF l rd):U8L ms:=by
 intro p c;have b:p.bs∈zT ms:=mM_.2 ⟨p,c,rfl⟩;rw[h]at b;exact zxy l rd 4 p.bs b
theorem zuq {o:Nat}{d:Q_}{ms:List zi}(m:w.ownsRow base 61 1 (.slice d ms.length o) ms.length (pv ms))(B:∀b,base<=b->U b=false)(l:∀p∈ms,zg (zq U w) p.sa p.cap p.bs)(E:ms.length<=3):zx (zq U w) d o ms/\∀c f,d=some (p_ c f)->c<w.heap.size:=by
 rcases m.2 with⟨e,z⟩|⟨g,C,D,e,r⟩;simp only[Value.slice.injEq]at e;obtain⟨s,_,t⟩:=e;subst s t;refine⟨⟨by omega,by decide,by omega,.inl rfl,⟨.inl (eN_ z),l⟩⟩,(λc f q=>by cases q)⟩;have A:=m;cases e;refine⟨⟨r.2.2.1,nT_ r.2.2.2.1 (by decide),by omega,.inr ⟨g,0,rfl⟩,⟨.inr ⟨g,0,rfl,λj y=>?_⟩,l⟩⟩,?_⟩;have u:w.cell? (p_ g (0+j))=some (.slice (ms[j]).sa (ms[j]).bs.length (ms[j]).cap):=by
  rw[zA_,World.ownsRow.cellAt A j (by omega)];simp[pv,y,zi.val]
 rw[<-u];exact cB_ (zdr (B g r.1));intro c f q;cases q;exact ze r.2.1
structure zzi (w w':World)(e:Ending)(U:Nat->Bool)(x:NM)(rd:Int):Prop where
 out:∃hd:Ct,e=.returned (.agg (hrow_ hd))/\hd.v=x.v.header rd/\hd.vl=[]/\HAt (zq U w') hd.ba hd.bc hd.bl hd.pa hd.pc hd.pl/\U8L hd.bl/\U8L hd.pl/\B_ w w'
theorem zo.ds32 (h:zo w U F o T fc x):∀p∈x.ds,p.bs.length<=140737488355328:=by
 intro p d;have b:p.bs∈zT x.ds:=mM_.2 ⟨p,d,rfl⟩;rw[h.stk.same]at b;obtain⟨c,_,e⟩:=mM_.1 b;rw[<-e,CV.d,zbD];decide
theorem zqr (x:NM)(rd:Int)(w:World)(U:Nat->Bool)(F o:Nat)(T:TypeId)(fc:X_)(h:zo w U F o T fc x)(hr:1<=rd/\rd<=1048577) :
  Calls prog 72 #[P_ F o,I_ rd] w λe w'=>zzi w w' e U x rd:=by
 have aq:IntKind.i64.wrap (rd-1)=rd-1:=by rw[IntKind.wrap_i64];omega
 refine kO_ ?C0 ?_;exact Obj.cells #[I_ 0,I_ 0,O_,O_] 60;have y:=zC w ?C0;have q0:=hN_ w ?C0;go_in;go_upto_region 1 with fail
 generalize w.alloc ?C0=O at y q0|-;have H:=h.below y;obtain⟨c,R⟩:∃c,c=w.heap.size:=⟨_,rfl⟩;rw[<-R]at q0|-;have an:Hid _:=R;clear R;have k0:C_ O F o (I_ x.nu):=H.cell 0 _ rfl;have k6:=H.cell 6 _ rfl;have C:=dB_ O;have Y:=dC_ k0;have aa:=dC_ k6;refine wR_ (S:=λw'=>C_ w' F o (I_ x.nu)/\C_ w' F (o+6) (P_ x.s 0)) (by kernel_rfl) ⟨Y,aa⟩ (λu=>?_);generalize O.drew=E at C Y aa u|-;have al:=zk C q0;refine tks_ 12 [(0,5,(P_ F o)),(1,6,(P_ F o)),(2,7,(P_ F o)),(3,8,I_ x.nu),(4,9,I_ rd),(5,10,(P_ F o)),(7,12,(P_ F o)),(8,13,(P_ F o)),(9,14,(P_ F (o+6))),(10,15,(P_ x.s 0)),(11,16,I_ rd),(12,17,I_ (rd-1))] u ?_;simp only[tkf_,zf];refine zE 6 rfl (λK9 B=>?_);refine zj rfl 11 rfl 123 [.tmp 10] #[80] rfl [P_ F o] rfl (eO_ func123) (λv w'=>∃j l ms,v=.slice j (List.length ms) l/\zT ms=zb2 x.v.k x.nu [] x.v.k.sh/\ms.length<=3/\w'.ownsRow E.heap.size 61 1 (.slice j ms.length l) ms.length (pv ms)/\(∀p∈ms,∃s∈x.sh,p=s.d)/\B_ E w') ((zup x E U F o T fc (H.below C)).mono (λe w' k=>by obtain⟨j,l,ms,V,Z,k2,k3,k4,k5⟩:=k.out;exact⟨_,V,j,l,ms,rfl,Z,k2,k3,k4,k5⟩)) ?_;rintro v G⟨j,l,ms,rfl,m1,m2,m3,m4,N⟩;have M:=zm C N;have ae:=zr N Y;have ah:=zr N aa;refine B.out _ _ ⟨ae,ah⟩ (λu=>?_);simp only[zf];have ab:Hid _:=m1;clear m1;have am:=zk N al;obtain⟨ca,cc,da,dc,ap⟩:=(H.below M).stkAt;refine zE 13 rfl (λK9 B=>?_);refine zj rfl 18 rfl 124 [.tmp 15,.tmp 17] #[57,3] rfl [P_ x.s 0,I_ (rd-1)] rfl (eO_ func124) (λv w'=>∃f g d,v=.slice f (List.length d) g/\zT d=dgF (zI x.ls) (rd-1)/\zx w' f g d/\za1 G.heap.size f d/\(∀m r,f=some (p_ m r)->m<w'.heap.size)/\B_ G w') ((zqn x.ls x.s ca cc da dc x.ds (rd-1) G ap h.ds32).mono (λe w' k=>by obtain⟨f,g,d,V,Z,k2,k3,k4,k5⟩:=k;exact⟨_,V,f,g,d,rfl,Z,k2,k3,k5,k4⟩)) ?_;rintro v A⟨f,g,d,rfl,n1,n2,z,n4,D⟩;have ao:=zm M D;have af:=zr D ae;have ai:=zr D ah;refine B.out _ _ ⟨af,ai⟩ (λu=>?_);simp only[zf];have ac:Hid _:=n1;clear n1;have q:=zk D am;refine kA_ ?B0 ?_;exact #[I_ x.nu,I_ rd,.slice j ms.length l,.slice f d.length g];refine zU 14 19 (.agg ?B0) rfl rfl u ?_;simp only[zf];have ax:=zb q 0 _ rfl;have ar:=zd q 0;have ay:=zb q 1 _ rfl;have au:=zd q 1;have az:=zb q 2 _ rfl;have av:=zd q 2;have aA:=zb q 3 _ rfl;have aw:=zd q 3;have I:=ze al;have J:=ze am;have L:w.heap.size<=c:=by rw[an.out];exact nR_ _
 refine zE 15 rfl (λK9 B=>?_);refine kW_ ?A0 ?_;exact(((A.setCell (p_ c 0) (I_ x.nu)).setCell (p_ c 1) (I_ rd)).setCell (p_ c 2) (.slice j ms.length l)).setCell (p_ c 3) (.slice f d.length g);refine zX rfl rfl ?A0 (by go_simp) ?_;have ak:(?A0).heap[c]? = some (.cells ?B0 60 (0,0)):=by simpa using(hS_ _ _ 3 _ _ (.slice f d.length g) (hS_ _ _ 2 _ _ (.slice j ms.length l) (hS_ _ _ 1 _ _ (I_ rd) (hS_ _ _ 0 _ _ (I_ x.nu) q))))
 have nB:=(((((y.trans (ao.mono y.size)).setCell (p:=p_ c 0) L (I_ x.nu)).setCell (p:=p_ c 1) L (I_ rd)).setCell (p:=p_ c 2) L (.slice j ms.length l)).setCell (p:=p_ c 3) L (.slice f d.length g));have nL:=(zx.setCell (zx.setCell (zx.setCell (zx.setCell n2 z c 0 (I_ x.nu) J) z c 1 (I_ rd) J) z c 2 (.slice j ms.length l) J) z c 3 (.slice f d.length g) J);have nO:=(zQ (zQ (zQ (zQ (zw m3 D) c 0 (I_ x.nu) I) c 1 (I_ rd) I) c 2 (.slice j ms.length l) I) c 3 (.slice f d.length g) I);have t:F≠c:=λe=>by have:=h.bnd F h.fu;omega
 have ag:=(zar (k:=3) (v:=.slice f d.length g) (zar (k:=2) (v:=.slice j ms.length l) (zar (k:=1) (v:=I_ rd) (zar (k:=0) (v:=I_ x.nu) af t) t) t) t);have aj:=(zar (k:=3) (v:=.slice f d.length g) (zar (k:=2) (v:=.slice j ms.length l) (zar (k:=1) (v:=I_ rd) (zar (k:=0) (v:=I_ x.nu) ai t) t) t) t);refine B.out _ _ ⟨ag,aj⟩ (λu=>?_);have ad:A.heap.size<=(?A0).heap.size:=by simp
 generalize ?A0=W5 at ak nB nL nO ag aj ad u|-;clear u;refine wD_ (by kernel_rfl) ?_ _;go_wp2_with fail
 obtain⟨l1,l2⟩:=zuq (U:=U) nO (λb hb=>h.bnd.new (nT_ (nT_ y.size C.size) hb)) (λp X=>by
   obtain⟨s,hs,e⟩:=m4 p X;rw[e];exact(h.esh s hs).d.sub (zao.below U nB).sub) m2
 have l3:zx (zq U W5) f g d:=zvH nL ⟨λm r e _=>h.bnd.new (nT_ (nT_ y.size M.size) (z.row m r e)),λp X m r e _=>h.bnd.new (nT_ (nT_ y.size M.size) (z.each p X m r e))⟩;exact bP_ (v:=.agg ?B0) (rC_ (fn:=Tryz.f72) (p:=4) (ty:=60) rfl _ _ c 60 _ (0,0) _ rfl ak underlying60 rfl sHd) rfl ⟨⟨x.nu,rd,j,l,ms,f,g,d,none,0,[]⟩,rfl,by show(⟨x.nu,rd,zT ms,zT d,[]⟩:CV)=_;rw[ab.out,ac.out];rfl,rfl,⟨l1,l3,λm r e=>by rw[zch];exact l2 m r e,λm r e=>by rw[zch];exact nL_ (n4 m r e) ad⟩,zxx ab.out,zzh ac.out,nB⟩
theorem zsi (x:NM)(rd:Int)(w:World)(U:Nat->Bool)(F o:Nat)(T:TypeId)(fc:X_)(h:zo w U F o T fc x)(hr:1<=rd/\rd<=1048577) :
  Calls prog 44 #[P_ F o,I_ rd] w λe w'=>(∃v,e=.returned v)/\zal w U F o T fc x w' (x.v.offerNew rd):=by
 have a4:=zqr x rd w U F o T fc h hr;go_in;go_wp2_with fail
 refine a4.mono ?_;rintro e w0⟨c,he,bg,bF,hH,a0,a1,aJ⟩;subst he;dsimp only;clear a4;have HM:Hid (x.v.offerNew rd=if(zaf x.v.k.tab c.v).2.2=0/\x.v.room (zcl c.v)=true then({ x.v.log (zcl c.v) { x.v.k with tab:=(zaf x.v.k.tab c.v).1,own:=c.v,slot:=c.v.slot } with vot:=[x.v.nu] }:Nd).sendAll (zcl c.v)else x.v):=by show _=_;rw[bg];rfl
 clear bg;have hA:=zC w0 (.cells (hrow_ c) 60);have aB:=hN_ w0 (.cells (hrow_ c) 60);have bd:Hid (U w0.heap.size=false):=h.bnd.new aJ.size;go_upto_region 1 with fail
 generalize w0.alloc (.cells (hrow_ c) 60)=I at hA aB|-;generalize w0.heap.size=B0 at aB bd|-;have aW:=zm aJ hA;have N:=h.below aW;have n1:=zl.below (F:=F) (o:=o) U fc x aW;have aR:=hH.sub ((h.below aJ).later hA);have c5:=N.cell 5 _ rfl;clear hA aJ aW hH;go_cut [5,6,7] (λu6 u7 u8 wx=>∃(r:Q_) (rc:Nat) (f:List Sl) (d:Nat) (m:Q_) (u:Nat) (y z:Int) (ds:L_) (A:Int),u6=.slice r f.length rc/\u7=(P_ d 0)/\u8=I_ A/\B_ I wx/\I.heap.size<=d/\R_ wx d #[I_ y,I_ z,.slice m ds.length u] 63/\Hid ((vs f,(y,z,ds),A)=zaf x.v.k.tab c.v/\zg wx m u ds/\(∀l t,m=some (p_ l t)->I.heap.size<=l/\(Value.slice r f.length rc).ownBlock≠some l)/\wx.ownsRow I.heap.size 63 3 (.slice r f.length rc) f.length (slv f)/\z8 wx I.heap.size (.slice r f.length rc) (ps f)/\(Value.slice r f.length rc).ownBlock≠some d))
 case first=>
  have R:=dB_ I;have ar:=dC_ c5;have aC:=dQ_ aB;refine wR_ (S:=λw'=>C_ w' F (o+5) (.slice x.ta x.tab.length x.tc)/\R_ w' B0 (hrow_ c) 60) (by kernel_rfl) ⟨ar,aC⟩ (λD=>?_);generalize I.drew=J at R ar aC D|-;refine tks_ 4 [(0,12,(P_ F o)),(1,13,(P_ F o)),(2,14,(P_ F (o+5))),(3,15,.slice x.ta x.tab.length x.tc)] D ?_;simp only[tkf_,zf];refine tQ_ 4 16 (.agg (hrow_ c)) rfl rfl (Or.inl ⟨by rfl,λw0 bC=>zL 60 _ rfl B0 rfl 60 (hrow_ c) (0,0) _ bC.2 underlying60 rfl sHd⟩) D ?_;simp only[zf];refine rY_ (rs:=[5,10]) (by kernel_rfl) (by simp) (rA_ rfl (λK9 Z=>?_) (rA_ rfl (λK9 Z=>?_) rN_));refine zj rfl 17 rfl 73 [.tmp 15,.tmp 16] #[38,60] rfl [.slice x.ta x.tab.length x.tc,.agg (hrow_ c)] rfl (eO_ func73) (λv w'=>(∃(r:Q_) (rc:Nat) (f:List Sl) (m:Q_) (u:Nat) (y z:Int) (ds:L_) (A:Int),v=.tuple #[.slice r (List.length f) rc,.agg #[I_ y,I_ z,.slice m (List.length ds) u],I_ A]/\(vs f,(y,z,ds),A)=zaf x.v.k.tab c.v/\zg w' m u ds/\(∀l t,m=some (p_ l t)->J.heap.size<=l/\(Value.slice r (List.length f) rc).ownBlock≠some l)/\w'.ownsRow J.heap.size 63 3 (.slice r (List.length f) rc) (List.length f) (slv f)/\z8 w' J.heap.size (.slice r (List.length f) rc) (ps f))/\B_ J w') ((zgh x.tab x.ta x.tc c.au c.rd c.ba c.bc c.bl c.pa c.pc c.pl J ((N.below R).tabAt) ((aR.sub (zK U I)).below R) ((N.below R).tabs.sub (zK _ _))).mono (λe w' k=>by
    obtain⟨r,rc,f,m,u,y,z,ds,A,k1,k2,_,k4,_,k6,k7,k8,k9,a2⟩:=k;exact⟨_,k1,⟨r,rc,f,m,u,y,z,ds,A,rfl,by rw[k2,zgi];rfl,k4,λl t e=>⟨k6 l t e,a2 l t e⟩,k8,k9⟩,k7⟩)) ?_
  rintro v E⟨⟨r,rc,f,m,u,y,z,ds,A,rfl,hR,ag,an,hO,M⟩,hbc⟩;have O:=zm R hbc;have ae:=zr hbc ar;have ah:=zk hbc aC;refine Z.out _ _ ⟨ae,ah⟩ (λD=>?_)
  rotate_left
  refine zy rfl 6 rfl (P_ J.heap.size 0) (J.alloc (.cells #[I_ 0,I_ 0,O_] 63)) (by go_simp) ?_;have L:=zC J (.cells #[I_ 0,I_ 0,O_] 63);have C:=hN_ J (.cells #[I_ 0,I_ 0,O_] 63);have O:=zm R L;have V:=R.size;have ae:=zr L ar;have ab:F≠J.heap.size:=Nat.ne_of_lt (bL_ ar);have ah:=zk L aC;have ad:=Nat.ne_of_lt (ze aC);refine Z.out _ _ ⟨ae,ah⟩ (λD=>?_);simp only[zf];have al:J.heap.size<(J.alloc (.cells #[I_ 0,I_ 0,O_] 63)).heap.size:=by simp
  generalize J.alloc (.cells #[I_ 0,I_ 0,O_] 63)=E at L C O al ae ah D|-;clear L;generalize J.heap.size=d at C V al ab ad|-;refine zE 5 rfl (λK9 Z=>?_);have bN:=al;refine zj rfl 17 rfl 73 [.tmp 15,.tmp 16] #[38,60] rfl [.slice x.ta x.tab.length x.tc,.agg (hrow_ c)] rfl (eO_ func73) (λv w'=>(∃(r:Q_) (rc:Nat) (f:List Sl) (m:Q_) (u:Nat) (y z:Int) (ds:L_) (A:Int),v=.tuple #[.slice r (List.length f) rc,.agg #[I_ y,I_ z,.slice m (List.length ds) u],I_ A]/\(vs f,(y,z,ds),A)=zaf x.v.k.tab c.v/\zg w' m u ds/\(∀l t,m=some (p_ l t)->E.heap.size<=l/\(Value.slice r (List.length f) rc).ownBlock≠some l)/\w'.ownsRow E.heap.size 63 3 (.slice r (List.length f) rc) (List.length f) (slv f)/\z8 w' E.heap.size (.slice r (List.length f) rc) (ps f))/\B_ E w') ((zgh x.tab x.ta x.tc c.au c.rd c.ba c.bc c.bl c.pa c.pc c.pl E ((N.below O).tabAt) ((aR.sub (zK U I)).below O) ((N.below O).tabs.sub (zK _ _))).mono (λe w' k=>by
    obtain⟨r,rc,f,m,u,y,z,ds,A,k1,k2,_,k4,_,k6,k7,k8,k9,a2⟩:=k;exact⟨_,k1,⟨r,rc,f,m,u,y,z,ds,A,rfl,by rw[k2,zgi];rfl,k4,λl t e=>⟨k6 l t e,a2 l t e⟩,k8,k9⟩,k7⟩)) ?_
  rintro v H⟨⟨r,rc,f,m,u,y,z,ds,A,rfl,hR,ag,an,hO,M⟩,hbc⟩;have aI:=zm O hbc;have ak:=zr hbc ae;have ap:=zk hbc ah;have C:=zk hbc C;refine Z.out _ _ ⟨ak,ap⟩ (λD=>?_)
  rotate_left
  all_goals
   simp only[zf];refine tks_ 4 [(6,11,.tuple #[.slice r f.length rc,.agg #[I_ y,I_ z,.slice m ds.length u],I_ A]),(7,18,.slice r f.length rc),(8,19,.agg #[I_ y,I_ z,.slice m ds.length u]),(9,20,I_ A)] D ?_;simp only[tkf_,zf]
  refine zE 10 rfl (λK9 Z=>?_);refine zy rfl 6 rfl (P_ E.heap.size 0) (E.alloc (.cells #[I_ 0,I_ 0,O_] 63)) (by go_simp) ?_;have L:=zC E (.cells #[I_ 0,I_ 0,O_] 63);have C:=hN_ E (.cells #[I_ 0,I_ 0,O_] 63);have aI:=zm O L;have V:=O.size;have ak:=zr L ae;have ab:F≠E.heap.size:=Nat.ne_of_lt (bL_ ae);have ap:=zk L ah;have ad:=Nat.ne_of_lt (ze ah);have ao:=λq e=>Nat.ne_of_lt (hO.lt q e).2;have aM:∀l t,m=some (p_ l t)->ds≠[]->l≠E.heap.size:=λl t e hn=>Nat.ne_of_lt (zhh ag hn e);have aL:=λp B l t e=>Nat.ne_of_lt ((M p B).2 l t e).2.1;have ag:=ag.below L;have hO:=zw hO L;have M:=M.same L.size (λp B b t e=>L.block b ((M p B).2 b t e).2.1);refine Z.out _ _ ⟨ak,ap⟩ (λD=>?_);simp only[zf];have al:E.heap.size<(E.alloc (.cells #[I_ 0,I_ 0,O_] 63)).heap.size:=by simp
  generalize E.alloc (.cells #[I_ 0,I_ 0,O_] 63)=H at L C aI al ak ap ag hO M D|-;clear L;generalize E.heap.size=d at C V al ab ad ao aM aL|-
  rotate_left
  have ao:∀q,(Value.slice r f.length rc).ownBlock=some q->q≠d:=λq e=>by have:=(hO.lt q e).1;omega
  have aM:∀l t,m=some (p_ l t)->ds≠[]->l≠d:=λl t e hn=>by have:=(an l t e).1;omega
  have aL:∀p∈ps f,∀l t,p.sa=some (p_ l t)->l≠d:=λp B l t e=>by have:=((M p B).2 l t e).1;omega
  rotate_left
  all_goals
   have bJ:=zb C 0 _ rfl;have bG:=zd C 0;have bK:=zb C 1 _ rfl;have bH:=zd C 1;have bL:=zb C 2 _ rfl;have bI:=zd C 2;refine zU 11 5 (.slice r f.length rc) rfl rfl D ?_;simp only[zf];refine zE 12 rfl (λK9 Z=>?_);refine zX rfl rfl (((H.setCell (p_ d 0) (I_ y)).setCell (p_ d 1) (I_ z)).setCell (p_ d 2) (.slice m ds.length u)) (by go_simp) ?_;have aA:(((H.setCell (p_ d 0) (I_ y)).setCell (p_ d 1) (I_ z)).setCell (p_ d 2) (.slice m ds.length u)).heap[d]? = some (.cells #[I_ y,I_ z,.slice m ds.length u] 63 (0,0)):=by simpa using(hS_ _ _ 2 _ _ (.slice m ds.length u) (hS_ _ _ 1 _ _ (I_ z) (hS_ _ _ 0 _ _ (I_ y) C)))
   have ay:=(((aI.setCell (p:=p_ d 0) V (I_ y)).setCell (p:=p_ d 1) V (I_ z)).setCell (p:=p_ d 2) V (.slice m ds.length u));have au:=(zar (k:=2) (v:=.slice m ds.length u) (zar (k:=1) (v:=I_ z) (zar (k:=0) (v:=I_ y) ak ab) ab) ab);have aD:=(zh (j:=2) (v:=.slice m ds.length u) (zh (j:=1) (v:=I_ z) (zh (j:=0) (v:=I_ y) ap ad) ad) ad);have XF:∀k,k≠d->(((H.setCell (p_ d 0) (I_ y)).setCell (p_ d 1) (I_ z)).setCell (p_ d 2) (.slice m ds.length u)).heap[k]? = H.heap[k]?:=λk hk=>by rw[hO_ _ (p_ d 2) k _ hk,hO_ _ (p_ d 1) k _ hk,hO_ _ (p_ d 0) k _ hk]
   have ax:=zcp (G:=λk=>k≠d) XF ag aM;have av:=zcf (zu hO (λq e=>XF q (ao q e))) (by have:=R.size;have:=O.size;omega);have aw:z8 (((H.setCell (p_ d 0) (I_ y)).setCell (p_ d 1) (I_ z)).setCell (p_ d 2) (.slice m ds.length u)) I.heap.size (.slice r f.length rc) (ps f):=λp B=>⟨(M.same (w':=(((H.setCell (p_ d 0) (I_ y)).setCell (p_ d 1) (I_ z)).setCell (p_ d 2) (.slice m ds.length u))) (by simp) (λp B b t e=>XF b (aL p B b t e)) p B).1,λl t e=>⟨by have:=((M p B).2 l t e).1;have:=R.size;have:=O.size;omega,by have:=((M p B).2 l t e).2.1;simpa using this,((M p B).2 l t e).2.2⟩⟩;have aZ:∀l t,m=some (p_ l t)->I.heap.size<=l/\(Value.slice r f.length rc).ownBlock≠some l:=λl t e=>⟨by have:=(an l t e).1;have:=R.size;have:=O.size;omega,(an l t e).2⟩;clear XF;refine Z.out _ _ ⟨au,aD⟩ (λD=>?_);generalize (((H.setCell (p_ d 0) (I_ y)).setCell (p_ d 1) (I_ z)).setCell (p_ d 2) (.slice m ds.length u))=VE at aA ay au aD ax av aw D|-;refine zU 13 7 (I_ A) rfl rfl D ?_;simp only[zf];clear D;refine wD_ (by kernel_rfl) ?_ _;go_wp2_with fail
   go_meet
   case rel=>exact⟨r,rc,f,d,m,u,y,z,ds,A,rfl,rfl,rfl,ay,V,aA,⟨hR,ax,aZ,av,aw,λe=>ao d e rfl⟩⟩
 case rest=>
  obtain⟨r,rc,f,d,m,u,y,z,ds,A,rfl,rfl,rfl,az,V,qn,hX⟩:=hcut;apply_assumption;clear c5;obtain⟨W2,be⟩:∃W,W=wc:=⟨_,rfl⟩;rw[<-be]at az qn hX|-;clear be;obtain⟨x1,x2,x3,X,x5,x6⟩:=hX.out;by_cases e0:A=0
  .subst e0;have c0:(zaf x.v.k.tab c.v).2.2=0:=by rw[<-x1]
   obtain⟨-,hf,t3,t4⟩:=zlb c0;have aY:Hid ((zaf x.v.k.tab c.v).1=vs f):=by show _=_;rw[<-x1]
   have aN:c.v.slot=(y,z,ds):=by rw[<-t3,<-x1]
   have e1:y=c.au:=(cA_ (λv=>v.1) aN).symm;have e2:z=c.rd:=(cA_ (λv=>v.2.1) aN).symm;have e3:ds=c.v.d:=(cA_ (λv=>v.2.2) aN).symm;subst e1 e2 e3;obtain⟨am,aG⟩:=N.hideRow az X (λq e=>(X.lt q (zaK _ _ e)).1);have aS:Hid (HAt (zq (zaF U (ob r)) W2) c.ba c.bc c.bl c.pa c.pc c.pl):=aR.sub (aG.sub N);have aH:Hid (zaF U (ob r) d=false):=zbw (N.bnd.new V) (λe=>x6 (zaK _ _ e));have aV:Hid (zg (zq (zaF U (ob r)) W2) m u c.v.d):=zci x2 (λl t e _=>zbw (N.bnd.new (x3 l t e).1) (λe2=>(x3 l t e).2 (zaK _ _ e2)));have ac:Hid (∀q,ob r=some q->I.heap.size<=q/\zaF U (ob r) q=true/\q≠F/\q<W2.heap.size):=λq e=>⟨(X.lt q (zaK _ _ e)).1,zeM e,λef=>by have:=(X.lt q (zaK _ _ e)).1;have:=ze N.blk;omega,(X.lt q (zaK _ _ e)).2⟩;have bB:Hid (∀q,ob r=some q->¬x.S q):=λq e hs=>by have:=N.bnd q (N.su q hs).1;have:=(X.lt q (zaK _ _ e)).1;omega
   have aU:Hid (∀s∈f,zg (zq (zaF U (ob r)) W2) s.p.sa s.p.cap s.p.bs):=λs hs=>by
    have B:=x5 s.p (mM_.2 ⟨s,hs,rfl⟩);exact zci B.1 (λl t e _=>zbw (N.bnd.new (B.2 l t e).1) (λe2=>(B.2 l t e).2.2 (zaK _ _ e2)))
   have bc:Hid (W2.ownsRow 0 63 3 (.slice r f.length rc) f.length (slv f)):=zcf X (nZ_ _);have bD:Hid (∀s∈vs f,zaN s.2.2):=by
    show ∀s,_;intro s hs;rw[<-aY.out]at hs;rcases t4 with g|⟨g,_⟩;rw[g]at hs;exact h.inv.u8t s hs;rw[g]at hs;rcases mA_.1 hs with g2|g2;exact h.inv.u8t s g2;obtain rfl:s=c.v.slot:=by simpa using g2
    exact zfy _
   have bE:Hid (f.length<=400000):=by
    show _<=_;have e8:=zay f;have e7:=h.inv.tab;rw[<-e8,<-aY.out];rcases t4 with g|⟨g,g2⟩;rw[g];exact e7;rw[g,lP_];simp;omega
   have HN:=n1.trans aG;have ai:=zk az aB;have aF:Hid (zaF U (ob r) B0=false):=zbw bd.out (λe=>by have:=(ac.out B0 e).1;have:=ze aB;omega);have bf:Hid (c.v.d.length=32):=c.v.d_length;rw[bf.out]at qn;rw[aY.out]at HM;have bm:Hid _:=c0;have bb:zO c.au c.rd c.bl c.pl=0:=by rw[Ct.hf_v];exact hf
   generalize hU':zaF U (ob r)=U2 at am aG aH aV ac aU HN aF aS;clear hX x1 x2 x3 X x5 x6 c0 t3 t4 aN hU';have s0:=zb ai 0 _ rfl;have s1:=zb ai 1 _ rfl;have s2:=zb ai 2 _ rfl;have s3:=zb ai 3 _ rfl;have aq:=zmz c W2;go_wp2_with fail
   refine aq.mono ?_;rintro _ w3⟨rfl,aa⟩;clear aq s0 s1 s2 s3;dsimp only;have af:=am.below aa;have aT:=aS.out.sub (am.later aa);have a7:=aV.out.sub (am.later aa);have HW:=zgZ x (zeO c) w3 U2 F o T fc af (ztN aT) (zqW bb) (ztR a0 a1);have bj:(zeO c).c=zcl c.v:=rfl;rw[bj]at HW;generalize bi:x.v.room (zcl c.v)=rm at HW HM;have a5:Hid _:=bi;clear bi bj;go_wp2_with fail
   refine HW.mono ?_;rintro _ w4⟨rfl,Y,bA,X,h4,n4,v4⟩;dsimp only;clear HW;have a9:Hid _:=v4;clear v4;cases rm with
   | false=>
    go_wp2_with fail
    refine bP_ (results_none rfl _ _ _) rfl ?_;refine⟨⟨_,rfl⟩,?_⟩;rw[HM.out,iN_ (λg=>by cases g.2)];exact⟨Y,bA,X,h4,(HN.trans (zl.below (F:=F) (o:=o) U2 fc x aa)).trans n4,by rw[a9.out,Nd.wrt,a5.out];rfl⟩
   | true=>
    rw[iP_ ⟨bm.out,rfl⟩]at HM;have n3:=zl.below (F:=F) (o:=o) U2 fc x aa;have bk:=n4.box af (zk aa ai) aF.out;have bl:=n4.box af (zk aa qn) aH.out;have aK:=aa.size;have aQ:Hid (Y d=false/\Y B0=false):=⟨n4.hides (nL_ (ze qn) aK) aH.out,n4.hides (nL_ (ze ai) aK) aF.out⟩;have bu:Hid (zg (zq Y w4) m u c.v.d):=a7.sub (n4.sub af);have bn:Hid (HAt (zq Y w4) c.ba c.bc c.bl c.pa c.pc c.pl):=aT.sub (n4.sub af);have bs:Hid (∀s∈f,zg (zq Y w4) s.p.sa s.p.cap s.p.bs):=λs hs=>((aU.out s hs).sub (am.later aa)).sub (n4.sub af);have br:Hid (w4.ownsRow 0 63 3 (.slice r f.length rc) f.length (slv f)):=zu (zw bc.out aa) (λq e=>n4.block q (nL_ (ac.out q (zp e)).2.2.2 aK) (bB.out q (zp e)) (ac.out q (zp e)).2.2.1);have bt:Hid (∀q,ob r=some q->w.heap.size<=q/\Y q=true/\q≠F):=λq e=>⟨nT_ n1.size (ac.out q e).1,by rw[n4.us q (nL_ (ac.out q e).2.2.2 aK)];exact(ac.out q e).2.1,(ac.out q e).2.2.1⟩;have bq:=(HN.trans n3).trans n4;have bv:Hid (({ X with ta:=r,tc:=rc,tab:=f }:NM).v=x.v.log (zcl c.v) { x.v.k with tab:=vs f }):=by
     show _=_;rw[NM.v_tab,a9.out,Nd.wrt,a5.out];rfl
    clear ai qn aH aF aV aU bc ac HN am aG a7 aT aS af n3;have f5:=h4.free (o+5);have bz:=h4.cell 5 _ rfl;obtain⟨ba,x5,h5,n5,v5⟩:=zo.late_tab (a':=r) (c':=rc) (l':=f) bq h4 bt.out br.out bs.out (by rw[NM.v_tab];exact h4.inv.tab_ (by rw[zay];exact bE.out) bD.out);rw[bv.out]at v5;have aE:=zh (b:=F) (j:=o+5) (v:=.slice r f.length rc) bl (λe=>by have:=aQ.out.1;rw[e,h4.fu]at this;cases this);have aj:=zh (b:=F) (j:=o+5) (v:=.slice r f.length rc) bk (λe=>by have:=aQ.out.2;rw[e,h4.fu]at this;cases this);have a8:Hid (zg (zq Y (w4.setCell (p_ F (o+5)) (.slice r f.length rc))) m u c.v.d):=by show zg _ _ _ _;rw[zb3 h4.fu];exact bu.out
    have aP:Hid (HAt (zq Y (w4.setCell (p_ F (o+5)) (.slice r f.length rc))) c.ba c.bc c.bl c.pa c.pc c.pl):=by show HAt _ _ _ _ _ _ _;rw[zb3 h4.fu];exact bn.out
    go_upto_region 4 with fail
    generalize w4.setCell (p_ F (o+5)) (.slice r f.length rc)=W5 at h5 n5 aE aj a8 aP|-;have bw:Hid _:=v5;clear v5 f5 bz bk bl;have a3:Calls prog 76 #[P_ F o,.agg (hrow_ c),.agg #[I_ c.au,I_ c.rd,.slice m 32 u]] W5 λe w'=>(∃v,e=.returned v)/\zal W5 Y F o T ba x5 w' { x5.v with k:={ x5.v.k with own:=c.v,slot:=c.v.slot },vot:=[x5.v.nu] }:=by
     have k:=zlV x5 c ⟨c.au,c.rd,⟨m,u,c.v.d⟩⟩ W5 Y F o T ba h5 aP.out a8.out hf bF (zfy c.v) a0 a1;dsimp only [srow_]at k;rw[bf.out]at k;exact k
    have s0:=zb aj 0 _ rfl;have s1:=zb aj 1 _ rfl;have s2:=zb aj 2 _ rfl;have s3:=zb aj 3 _ rfl;have r0:=zb aE 0 _ rfl;have r1:=zb aE 1 _ rfl;have r2:=zb aE 2 _ rfl;go_wp2_with fail
    refine a3.mono ?_;rintro e w6⟨⟨v,he⟩,U6,fc6,x6,h6,n6,v6⟩;subst he;dsimp only;clear a3 s0 s1 s2 s3 r0 r1 r2;have aO:=n6.box h5 aj aQ.out.2;have bo:Hid (HAt (zq U6 w6) c.ba c.bc c.bl c.pa c.pc c.pl):=aP.out.sub (n6.sub h5);have bx:Hid _:=v6;clear v6 aj aE;have s0:=zb aO 0 _ rfl;have s1:=zb aO 1 _ rfl;have s2:=zb aO 2 _ rfl;have s3:=zb aO 3 _ rfl;have aq:=zmz c w6;go_wp2_with fail
    refine aq.mono ?_;rintro _ w7⟨rfl,aX⟩;dsimp only;clear aq s0 s1 s2 s3;have a6:=zh7 x6 (zeO c) w7 U6 F o T fc6 (h6.below aX) (ztV (bo.out.sub (h6.later aX)) bb a0 a1);go_wp2_with fail
    refine a6.mono ?_;rintro e w8⟨⟨v,he⟩,U8_,fc8,x8,h8,n8,v8⟩;subst he;dsimp only;clear a6;go_wp2_with fail
    go_end0;refine⟨⟨_,rfl⟩,U8_,fc8,x8,h8,(n5.trans n6).trans ((zl.below (F:=F) (o:=o) U6 fc6 x6 aX).trans n8),?_⟩;rw[v8,bx.out,bw.out,HM.out]
    rfl
  have bh:¬(zaf x.v.k.tab c.v).2.2=0:=by rw[<-x1];exact e0
  have bp:Hid (x.v.offerNew rd=x.v):=by show _=_;rw[HM.out,iN_ (λg=>bh g.1)]
  have bM:(A != 0)=true:=by simpa using e0
  clear hX x1 x2 x3 X x5 x6 e0 bh HM;go_wp2_with fail
  refine bP_ (results_none rfl _ _ _) rfl ?_;exact⟨⟨_,rfl⟩,by rw[bp.out];exact⟨U,fc,x,N.below az,n1.trans (zl.below (F:=F) (o:=o) U fc x az),rfl⟩⟩
theorem zo9 (k:Kn)(l:List CV):∀(e:Int),1<=e->(∀c∈l,1<=c.rd)->1<=zn k e l/\zn k e l<=e:=by
 induction l with
 | nil=>intro e j _;exact⟨j,Int.le_refl _⟩
 | cons c l ih=>
  intro e j m;have p:=m c (List.mem_cons_self ..);have b:1<=ziY k e c/\ziY k e c<=e:=by
   rw[ziY];by_cases g:c.rd<e/\c.bl.any (λd=>!zb1 k.sh d)=true;rw[iP_ g];omega;rw[iN_ g];omega
  have f:=ih (ziY k e c) b.1 (λd o=>m d (mC_ _ o));exact⟨f.1,Int.le_trans f.2 b.2⟩
theorem zsj {l:List CV}(h:zbV l=0):∀c∈l,1<=c.rd:=by
 intro c f;obtain⟨i,d,rfl⟩:=List.getElem_of_mem f;have b:=zou h i d;rw[show zaM l i=l[i] by simp[zaM,List.getD,d]]at b;exact(zmk b).1
theorem zpa (n:Nd)(t:Int)(m:MC):(n.send t m).trn=n.trn:=by rw[Nd.send];split<;>rfl
theorem zo.want_gm (h:zo w U F o T fc x){rd:Int}(c:1<=rd/\rd<=1048577)(W:World):GM W (zz (zn x.v.k (max (rd-1) 1) x.v.k.dag)):=by
 have b:=zo9 x.v.k x.v.k.dag (max (rd-1) 1) (by omega) (zsj h.inv.dag);exact zyc W ⟨b.1,by omega⟩
theorem zj4 {n:Int}(_:0<=n/\n<4):0<=zcs n/\zcs n<4:=by rw[zcs];omega
theorem zlg (x:NM)(rd:Int)(w:World)(U:Nat->Bool)(F o:Nat)(T:TypeId)(fc:X_)(h:zo w U F o T fc x)(hr:1<=rd/\rd<=1048577) :
  Calls prog 47 #[P_ F o,I_ rd] w λe w'=>(∃v,e=.returned v)/\zal w U F o T fc x w' (x.v.ask rd):=by
 have u:=zl1 x.trn w h.inv.trn;have aj:=zj4 h.inv.trn;have l:=h.cell 18 _ rfl;have aa:=h.free (o+18);obtain⟨y,z,b,f,r,A⟩:=h.put_turn (t':=zcs x.trn) (bR_ _ w) (h.inv.trn_ aj);have O:b.trn=zcs x.trn:=cA_ Nd.trn A;have ac:b.nu=x.nu:=cA_ Nd.nu A;go_in;go_wp2_with fail
 refine u.mono ?_;rintro _ w1⟨rfl,rfl⟩;dsimp only;clear u;go_upto_region 1 with fail
 generalize w.setCell (p_ F (o+18)) (I_ (zcs x.trn))=E at f r|-;clear l aa;have l:=f.cell 18 _ rfl;have Z:C_ E F o (I_ b.nu):=f.cell 0 _ rfl;by_cases e:b.trn=b.nu;have hT:Hid (x.v.turn=zcs b.trn):=by
  show _=_;rw[Nd.turn,iP_ (by show zcs x.trn=x.nu;rw[<-O,<-ac];exact e),O];rfl
 have ad:Hid (({ b.v with trn:=zcs b.trn }:Nd)={ x.v with trn:=x.v.turn }):=by show _=_;rw[hT.out,A];rfl
 clear O ac hT A;have HE:Hid (b.trn=b.nu):=e;have eb:(b.trn == b.nu)=true:=by simpa using e
 clear e
 rotate_left
 have ad:Hid (b.v={ x.v with trn:=x.v.turn }):=by
  show _=_;rw[A,Nd.turn,iN_ (λg=>e (by rw[O,ac];exact g))];rfl
 have eb:(b.trn == b.nu)=false:=by simpa using e
 clear O ac A e
 rotate_left
 all_goals
  have j:=dB_ E;have m:=dC_ l;have G:=dC_ Z;refine wR_ (S:=λw'=>C_ w' F (o+18) (I_ b.trn)/\C_ w' F o (I_ b.nu)) (by kernel_rfl) ⟨m,G⟩ (λd=>?_);generalize E.drew=p at j m G d|-;refine tks_ 9 [(0,12,(P_ F o)),(1,13,(P_ F o)),(2,14,(P_ F (o+18))),(3,15,I_ b.trn),(4,16,(P_ F o)),(5,17,(P_ F o)),(6,18,(P_ F o)),(7,19,I_ b.nu),(8,20,.bool (b.trn == b.nu))] d ?_;simp only[tkf_,zf];rw[eb];clear d;refine wD_ (by kernel_rfl) ?_ _
 clear l Z
 rotate_left
 clear Z l
 rotate_left
 all_goals
  have f:=f.below j;have r:=r.trans (zl.below (F:=F) (o:=o) y z b j)
 have l:=f.cell 18 _ rfl;have aa:=f.free (o+18);have u:=zl1 b.trn p f.inv.trn;have ak:=zj4 f.inv.trn;obtain⟨X,ab,c,s,n2,v2⟩:=f.put_turn (t':=zcs b.trn) (bR_ _ p) (f.inv.trn_ ak);have al:Hid (c.v={ x.v with trn:=x.v.turn }):=by show _=_;rw[<-ad.out,v2];rfl
 have ai:=r.trans n2;clear v2 ad;obtain⟨Y,L⟩:∃W,W=p:=⟨_,rfl⟩;rw[<-L]at u l aa s ai|-;clear L r n2;go_wp2_with fail
 refine u.mono ?_;rintro e w1⟨he,am⟩;subst he am;dsimp only;clear u;go_upto_region 3 with fail
 generalize Y.setCell (p_ F (o+18)) (I_ (zcs b.trn))=W2 at s ai|-;clear l aa;have l:=s.cell 18 _ rfl;have j:=dB_ W2;have m:=dC_ l;refine wR_ (S:=λw'=>C_ w' F (o+18) (I_ c.trn)) (by kernel_rfl) m (λd=>?_);generalize W2.drew=p at j m d|-;refine tks_ 7 [(0,29,(P_ F o)),(1,30,(P_ F o)),(2,31,(P_ F o)),(3,32,(P_ F (o+18))),(4,33,I_ c.trn),(5,34,(P_ F o)),(6,35,I_ rd)] d ?_;simp only[tkf_,zf];refine zE 7 rfl (λB q=>?_);refine zj rfl 36 rfl 83 [.tmp 34,.tmp 35] #[80,3] rfl [P_ F o,I_ rd] rfl (eO_ func83) (λv w'=>v=I_ (zn c.v.k (max (rd-1) 1) c.v.k.dag)/\B_ p w') ((zkR c rd p X F o T ab (s.below j) hr).mono (λe w' k=>⟨_,k.1,rfl,k.2⟩)) ?_
 rotate_left
 obtain⟨Y,L⟩:∃W,W=p:=⟨_,rfl⟩;rw[<-L]at f r j|-;clear L j;go_upto_region 3 with fail
 have l:=f.cell 18 _ rfl;have j:=dB_ Y;have m:=dC_ l;refine wR_ (S:=λw'=>C_ w' F (o+18) (I_ b.trn)) (by kernel_rfl) m (λd=>?_);generalize Y.drew=p at j m d|-;refine tks_ 7 [(0,29,(P_ F o)),(1,30,(P_ F o)),(2,31,(P_ F o)),(3,32,(P_ F (o+18))),(4,33,I_ b.trn),(5,34,(P_ F o)),(6,35,I_ rd)] d ?_;simp only[tkf_,zf];refine zE 7 rfl (λB q=>?_);refine zj rfl 36 rfl 83 [.tmp 34,.tmp 35] #[80,3] rfl [P_ F o,I_ rd] rfl (eO_ func83) (λv w'=>v=I_ (zn b.v.k (max (rd-1) 1) b.v.k.dag)/\B_ p w') ((zkR b rd p y F o T z (f.below j) hr).mono (λe w' k=>⟨_,k.1,rfl,k.2⟩)) ?_
 rotate_left
 all_goals
  rintro v C⟨rfl,M⟩;have ah:=zm j M;have H:=zr M m;refine q.out _ _ H (λd=>?_);simp only[zf];refine zE 8 rfl (λB q=>?_)
 refine kA_ ?A0 ?_;exact #[I_ (zz (zn c.v.k (max (rd-1) 1) c.v.k.dag)).m.fr,I_ (zz (zn c.v.k (max (rd-1) 1) c.v.k.dag)).m.tt,I_ (zz (zn c.v.k (max (rd-1) 1) c.v.k.dag)).m.ki,I_ (zz (zn c.v.k (max (rd-1) 1) c.v.k.dag)).m.bau,I_ (zz (zn c.v.k (max (rd-1) 1) c.v.k.dag)).m.bnu,.slice (zz (zn c.v.k (max (rd-1) 1) c.v.k.dag)).m.bta (zz (zn c.v.k (max (rd-1) 1) c.v.k.dag)).m.btn (zz (zn c.v.k (max (rd-1) 1) c.v.k.dag)).m.btc,I_ (zz (zn c.v.k (max (rd-1) 1) c.v.k.dag)).m.hau,I_ (zz (zn c.v.k (max (rd-1) 1) c.v.k.dag)).m.hrd,.slice (zz (zn c.v.k (max (rd-1) 1) c.v.k.dag)).m.hba (zz (zn c.v.k (max (rd-1) 1) c.v.k.dag)).m.hbn (zz (zn c.v.k (max (rd-1) 1) c.v.k.dag)).m.hbc,.slice (zz (zn c.v.k (max (rd-1) 1) c.v.k.dag)).m.hpa (zz (zn c.v.k (max (rd-1) 1) c.v.k.dag)).m.hpn (zz (zn c.v.k (max (rd-1) 1) c.v.k.dag)).m.hpc,I_ (zz (zn c.v.k (max (rd-1) 1) c.v.k.dag)).m.sau,I_ (zz (zn c.v.k (max (rd-1) 1) c.v.k.dag)).m.srd,.slice (zz (zn c.v.k (max (rd-1) 1) c.v.k.dag)).m.sda (zz (zn c.v.k (max (rd-1) 1) c.v.k.dag)).m.sdn (zz (zn c.v.k (max (rd-1) 1) c.v.k.dag)).m.sdc,I_ (zz (zn c.v.k (max (rd-1) 1) c.v.k.dag)).m.cau,I_ (zz (zn c.v.k (max (rd-1) 1) c.v.k.dag)).m.crd,.slice (zz (zn c.v.k (max (rd-1) 1) c.v.k.dag)).m.cba (zz (zn c.v.k (max (rd-1) 1) c.v.k.dag)).m.cbn (zz (zn c.v.k (max (rd-1) 1) c.v.k.dag)).m.cbc,.slice (zz (zn c.v.k (max (rd-1) 1) c.v.k.dag)).m.cpa (zz (zn c.v.k (max (rd-1) 1) c.v.k.dag)).m.cpn (zz (zn c.v.k (max (rd-1) 1) c.v.k.dag)).m.cpc,.slice (zz (zn c.v.k (max (rd-1) 1) c.v.k.dag)).m.cva (zz (zn c.v.k (max (rd-1) 1) c.v.k.dag)).m.cvn (zz (zn c.v.k (max (rd-1) 1) c.v.k.dag)).m.cvc,I_ (zz (zn c.v.k (max (rd-1) 1) c.v.k.dag)).m.ro];refine zj rfl 37 rfl 82 [.tmp 36] #[3] rfl [I_ (zn c.v.k (max (rd-1) 1) c.v.k.dag)] rfl (eO_ func82) (λv w'=>v=.agg ?A0/\B_ C w') ((zqU (zn c.v.k (max (rd-1) 1) c.v.k.dag) C).mono (λe w' k=>⟨_,k.1,rfl,k.2⟩)) ?_
 rotate_left
 refine kA_ ?B0 ?_;exact #[I_ (zz (zn b.v.k (max (rd-1) 1) b.v.k.dag)).m.fr,I_ (zz (zn b.v.k (max (rd-1) 1) b.v.k.dag)).m.tt,I_ (zz (zn b.v.k (max (rd-1) 1) b.v.k.dag)).m.ki,I_ (zz (zn b.v.k (max (rd-1) 1) b.v.k.dag)).m.bau,I_ (zz (zn b.v.k (max (rd-1) 1) b.v.k.dag)).m.bnu,.slice (zz (zn b.v.k (max (rd-1) 1) b.v.k.dag)).m.bta (zz (zn b.v.k (max (rd-1) 1) b.v.k.dag)).m.btn (zz (zn b.v.k (max (rd-1) 1) b.v.k.dag)).m.btc,I_ (zz (zn b.v.k (max (rd-1) 1) b.v.k.dag)).m.hau,I_ (zz (zn b.v.k (max (rd-1) 1) b.v.k.dag)).m.hrd,.slice (zz (zn b.v.k (max (rd-1) 1) b.v.k.dag)).m.hba (zz (zn b.v.k (max (rd-1) 1) b.v.k.dag)).m.hbn (zz (zn b.v.k (max (rd-1) 1) b.v.k.dag)).m.hbc,.slice (zz (zn b.v.k (max (rd-1) 1) b.v.k.dag)).m.hpa (zz (zn b.v.k (max (rd-1) 1) b.v.k.dag)).m.hpn (zz (zn b.v.k (max (rd-1) 1) b.v.k.dag)).m.hpc,I_ (zz (zn b.v.k (max (rd-1) 1) b.v.k.dag)).m.sau,I_ (zz (zn b.v.k (max (rd-1) 1) b.v.k.dag)).m.srd,.slice (zz (zn b.v.k (max (rd-1) 1) b.v.k.dag)).m.sda (zz (zn b.v.k (max (rd-1) 1) b.v.k.dag)).m.sdn (zz (zn b.v.k (max (rd-1) 1) b.v.k.dag)).m.sdc,I_ (zz (zn b.v.k (max (rd-1) 1) b.v.k.dag)).m.cau,I_ (zz (zn b.v.k (max (rd-1) 1) b.v.k.dag)).m.crd,.slice (zz (zn b.v.k (max (rd-1) 1) b.v.k.dag)).m.cba (zz (zn b.v.k (max (rd-1) 1) b.v.k.dag)).m.cbn (zz (zn b.v.k (max (rd-1) 1) b.v.k.dag)).m.cbc,.slice (zz (zn b.v.k (max (rd-1) 1) b.v.k.dag)).m.cpa (zz (zn b.v.k (max (rd-1) 1) b.v.k.dag)).m.cpn (zz (zn b.v.k (max (rd-1) 1) b.v.k.dag)).m.cpc,.slice (zz (zn b.v.k (max (rd-1) 1) b.v.k.dag)).m.cva (zz (zn b.v.k (max (rd-1) 1) b.v.k.dag)).m.cvn (zz (zn b.v.k (max (rd-1) 1) b.v.k.dag)).m.cvc,I_ (zz (zn b.v.k (max (rd-1) 1) b.v.k.dag)).m.ro];refine zj rfl 37 rfl 82 [.tmp 36] #[3] rfl [I_ (zn b.v.k (max (rd-1) 1) b.v.k.dag)] rfl (eO_ func82) (λv w'=>v=.agg ?B0/\B_ C w') ((zqU (zn b.v.k (max (rd-1) 1) b.v.k.dag) C).mono (λe w' k=>⟨_,k.1,rfl,k.2⟩)) ?_
 rotate_left
 all_goals
  rintro v D⟨rfl,N⟩;have J:=zm ah N;have ae:=zr N H;refine q.out _ _ ae (λd=>?_);simp only[zf];refine zE 9 rfl (λB q=>?_)
 refine zj rfl 38 rfl 80 [.tmp 29,.tmp 33,.tmp 37] #[80,3,90] rfl [P_ F o,I_ c.trn,.agg ?A0] rfl (eO_ func80) (λv w'=>zal D X F o T ab c w' (c.v.send c.trn (zz (zn c.v.k (max (rd-1) 1) c.v.k.dag)).c)) ((zeN c (zz (zn c.v.k (max (rd-1) 1) c.v.k.dag)) c.trn D X F o T ab (s.below J) (s.want_gm hr _) s.inv.trn).mono (λe w' k=>by obtain⟨⟨v,hv⟩,k2⟩:=k;exact⟨v,hv,k2⟩)) ?_;rintro v V3⟨U9,ag,t,I,n9,V⟩;have R:t.trn=c.trn:=by show t.v.trn=_;rw[V];exact zpa _ _ _
 have af:C_ V3 F (o+18) (I_ c.trn):=by rw[<-R];exact I.cell 18 _ rfl
 rotate_left
 refine zj rfl 38 rfl 80 [.tmp 29,.tmp 33,.tmp 37] #[80,3,90] rfl [P_ F o,I_ b.trn,.agg ?B0] rfl (eO_ func80) (λv w'=>zal D y F o T z b w' (b.v.send b.trn (zz (zn b.v.k (max (rd-1) 1) b.v.k.dag)).c)) ((zeN b (zz (zn b.v.k (max (rd-1) 1) b.v.k.dag)) b.trn D y F o T z (f.below J) (f.want_gm hr _) f.inv.trn).mono (λe w' k=>by obtain⟨⟨v,hv⟩,k2⟩:=k;exact⟨v,hv,k2⟩)) ?_;rintro v V3⟨U9,ag,t,I,n9,V⟩;have R:t.trn=b.trn:=by show t.v.trn=_;rw[V];exact zpa _ _ _
 have af:C_ V3 F (o+18) (I_ b.trn):=by rw[<-R];exact I.cell 18 _ rfl
 rotate_left
 all_goals
  clear R;refine q.out _ _ af (λd=>?_);simp only[zf];clear d;refine wD_ (by kernel_rfl) ?_ _;go_wp2_with fail
  go_end0
 refine⟨⟨_,rfl⟩,U9,ag,t,I,ai.trans ((zl.below (F:=F) (o:=o) X ab c J).trans n9),?_⟩;rw[V];show c.v.send c.v.trn (zrL (zn c.v.k (max (rd-1) 1) c.v.k.dag))=_;rw[al.out]
 rfl
 refine⟨⟨_,rfl⟩,U9,ag,t,I,r.trans ((zl.below (F:=F) (o:=o) y z b J).trans n9),?_⟩;rw[V];show b.v.send b.v.trn (zrL (zn b.v.k (max (rd-1) 1) b.v.k.dag))=_;rw[ad.out]
 rfl
theorem zur (x:NM)(w:World)(U:Nat->Bool)(F o:Nat)(T:TypeId)(fc:X_)(h:zo w U F o T fc x) :
  Calls prog 32 #[P_ F o] w λe w'=>(∃v,e=.returned v)/\zal w U F o T fc x w' x.v.work:=by
 have HG:=zqk x w U F o T fc h;go_in;go_wp2_with fail
 refine HG.mono ?_;rintro e w1⟨⟨v,b⟩,U1,fc1,x1,h1,n1,v1⟩;subst b;dsimp only;clear HG;have ac:Hid _:=v1;clear v1;obtain⟨R,X,Y,Z,H⟩:=h1.stkAt;have y:=h1.cell 6 _ rfl;have HR:=zj3 x1.ls x1.s R X Y Z x1.ds w1 H h1.inv.dag;clear H;go_wp2_with fail
 refine HR.mono ?_;rintro e w2⟨r,b,hN,aa⟩;subst b;dsimp only;clear HR y;have ad:Hid (r=zdi x1.v.k.dag):=hN.one (zhs h1.inv.dag);have G:1<=r/\r<=1048577:=by rw[ad.out];exact zqm h1.inv.dag
 have I:Hid (x.v.work=(x1.v.due r).ask r):=by show _=_;rw[Nd.work,<-ac.out,<-ad.out]
 have j:=h1.below aa;have n2:=n1.trans (zl.below (F:=F) (o:=o) U1 fc1 x1 aa);have A:=j.cell 8 _ rfl;clear hN aa ac h1 n1;by_cases e1:x1.own.rd<r
 .have u:Hid (x1.v.due r=x1.v.offerNew r):=iP_ e1;have HO:=zsi x1 r w2 U1 F o T fc1 j G;go_wp2_with fail
  refine HO.mono ?_;rintro e w3⟨⟨v,b⟩,U3,fc3,x3,q,t,v3⟩;subst b;dsimp only;clear HO A;have ab:Hid (x3.v=x1.v.due r):=by show _=_;rw[u.out];exact v3
  clear v3;have f:=zlg x3 r w3 U3 F o T fc3 q G;go_wp2_with fail
  refine f.mono ?_;rintro e w9⟨⟨v,b⟩,U9,fc9,x9,h9,n9,v9⟩;subst b;dsimp only;clear f;go_wp2_with fail
  go_end0;refine⟨⟨_,rfl⟩,U9,fc9,x9,h9,(n2.trans t).trans n9,?_⟩;rw[v9,ab.out,I.out]
 have u:Hid (x1.v.due r=if 0<=cOf x1.v.k.dag x1.own.au x1.own.rd then x1.v else x1.v.againTo 4):=iN_ e1;have hf:x1.v.k.own.hf=0:=by
  rcases j.inv.own with g|g
  exfalso;have g2:x1.own.rd=0:=g;omega
  exact g
 have D:Hid (∀V:World,B_ w2 V->Calls prog 45 #[P_ x1.s 0,I_ x1.own.au,I_ x1.own.rd] V λe w'=>e=.returned (.bool (decide (0<=cOf x1.v.k.dag x1.own.au x1.own.rd)))/\B_ V w'):=by
  show ∀V,_;intro V hV;obtain⟨R,X,Y,Z,H⟩:=(j.below hV).stkAt;exact zmx x1.ls x1.s R X Y Z x1.ds x1.own.au x1.own.rd V H
 have y:=j.cell 6 _ rfl;have E:=j.cell 7 _ rfl;go_upto_region 4 with fail
 by_cases e2:0<=cOf x1.v.k.dag x1.own.au x1.own.rd;rw[dT_ e2]at D;rw[iP_ e2]at u
 rotate_left
 rw[dF_ e2]at D;rw[iN_ e2]at u
 rotate_left
 all_goals
  have s:=dB_ w2;have l:=dC_ y;have m:=dC_ E;have p:=dC_ A;refine wR_ (S:=λw'=>C_ w' F (o+6) (P_ x1.s 0)/\C_ w' F (o+7) (I_ x1.own.au)/\C_ w' F (o+8) (I_ x1.own.rd)) (by kernel_rfl) ⟨l,m,p⟩ (λc=>?_);generalize w2.drew=z at s l m p c|-;refine tks_ 14 [(0,20,(P_ F o)),(1,21,(P_ F o)),(2,22,(P_ F (o+6))),(3,23,(P_ x1.s 0)),(4,24,(P_ F o)),(5,25,(P_ F o)),(6,26,(P_ F (o+7))),(7,27,(P_ F (o+7))),(8,28,I_ x1.own.au),(9,29,(P_ F o)),(10,30,(P_ F o)),(11,31,(P_ F (o+7))),(12,32,(P_ F (o+8))),(13,33,I_ x1.own.rd)] c ?_;simp only[tkf_,zf];refine zE 14 rfl (λK9 hK=>?_)
 refine zj rfl 34 rfl 45 [.tmp 23,.tmp 28,.tmp 33] #[57,3,3] rfl [P_ x1.s 0,I_ x1.own.au,I_ x1.own.rd] rfl (eO_ func45) (λv w'=>v=.bool true/\B_ z w') ((D.out z s).mono (λe w' k=>⟨_,k.1,rfl,k.2⟩)) ?_
 rotate_left
 refine zj rfl 34 rfl 45 [.tmp 23,.tmp 28,.tmp 33] #[57,3,3] rfl [P_ x1.s 0,I_ x1.own.au,I_ x1.own.rd] rfl (eO_ func45) (λv w'=>v=.bool false/\B_ z w') ((D.out z s).mono (λe w' k=>⟨_,k.1,rfl,k.2⟩)) ?_
 rotate_left
 all_goals
  rintro v J⟨rfl,d⟩;have B:=zm s d;have M:=zr d l;have N:=zr d m;have O:=zr d p;refine hK.out _ _ ⟨M,N,O⟩ (λc=>?_);simp only[zf]
 refine zU 15 35 (.bool false) rfl rfl c ?_
 rotate_left
 refine zU 15 35 (.bool true) rfl rfl c ?_
 rotate_left
 all_goals
  simp only[zf];clear c;refine wD_ (by kernel_rfl) ?_ _;have q:=j.below B;have t:=n2.trans (zl.below (F:=F) (o:=o) U1 fc1 x1 B)
 have ab:Hid (x1.v=x1.v.due r):=u.out.symm
 all_goals
  obtain⟨L,C⟩:∃W,W=J:=⟨_,rfl⟩;rw[<-C]at q t|-;clear C y E A
 have f:=zlg x1 r L U1 F o T fc1 q G
 rotate_left
 have HA:=zrY x1 L U1 F o T fc1 q hf;go_wp2_with fail
 refine HA.mono ?_;rintro e w4⟨⟨v,b⟩,U4,fc4,x4,h4,n4,v4⟩;subst b;dsimp only;clear HA;have ae:Hid (x4.v=x1.v.due r):=by show _=_;rw[u.out];exact v4
 clear v4;have f:=zlg x4 r w4 U4 F o T fc4 h4 G
 rotate_left
 all_goals
  go_wp2_with fail
  refine f.mono ?_;rintro e w9⟨⟨v,b⟩,U9,fc9,x9,h9,n9,v9⟩;subst b;dsimp only;clear f;go_wp2_with fail
  go_end0
 refine⟨⟨_,rfl⟩,U9,fc9,x9,h9,t.trans n9,?_⟩;rw[v9,I.out,<-ab.out];refine⟨⟨_,rfl⟩,U9,fc9,x9,h9,(t.trans n4).trans n9,?_⟩;rw[v9,ae.out,I.out]
variable {n:Nat}
theorem zv8:(prog.info? 194).map (λi=>(i.zero,i.size,i.bytes))=some (some (.agg #[I_ 0,I_ 0,I_ 0,O_]),4,48):=by kernel_rfl
def Sg.cs (s:Sg):List Value:=[I_ s.nd,I_ s.au,I_ s.rd,.slice s.p.sa s.p.bs.length s.p.cap]
def gv:List Sg->List Value
 | []=>[]
 | s::r=>s.cs++gv r
theorem zq9 (b:List Sg)(s:Sg):gv (b++[s])=gv b++s.cs:=by
 induction b with
 | nil=>simp[gv]
 | cons x r ih=>simp[gv,ih]
theorem zus (b:List Sg):(gv b).length=b.length*4:=by
 induction b with
 | nil=>rfl
 | cons x r ih=>simp[gv,ih,Sg.cs];omega
theorem zyE (b:List Sg)(j i:Nat)(h:j<b.length)(c:i<4):(gv b)[j*4+i]? = (b[j]).cs[i]?:=by
 induction b generalizing j with
 | nil=>cases h
 | cons x r ih=>
  cases j with
  | zero=>simp only[gv,Nat.zero_mul,zA_,List.getElem_cons_zero];rw[List.getElem?_append_left (by simp[Sg.cs];exact c)]
  | succ j=>
   have h':j<r.length:=by simpa using h
   simp only[gv,List.getElem_cons_succ];rw[List.getElem?_append_right (by simp[Sg.cs];omega),<-ih j h']
   congr 1
   simp[Sg.cs];omega
def gps (ls:List Sg):List zi:=ls.map Sg.p
theorem zyF {c b:List Sg}(h:zA c=zA b)(l:∀s∈b,zaN s.p.bs):∀s∈c,zaN s.p.bs:=by
 intro s f;have:s.v∈zA b:=by rw[<-h];exact mM_.2 ⟨s,f,rfl⟩
 obtain⟨t,j,e⟩:=mM_.1 this;have d:t.p.bs=s.p.bs:=cA_ (λg:GV=>g.2.2.2) e;rw[<-d];exact l t j
theorem zj6 {v:Value}{b:List Sg}(h:w.ownsRow base 194 4 v n (gv b))(q:z8 w base v (gps b))(G:∀s∈b,zaN s.p.bs):∃d rc,v=.slice d n rc/\n=b.length/\(n<=2932031007400->ze9 w d rc b)/\za1 base d (gps b):=by
 have E:n=b.length:=by have:=h.1;rw[zus]at this;omega
 rcases h.2 with⟨rfl,F⟩|⟨g,z,H,rfl,r⟩;have B:b=[]:=eN_ (by omega);subst F B;exact⟨none,0,rfl,rfl,λ_=>⟨nR_ _,by decide,by decide,.inl rfl,⟨.inl rfl,λp c=>by cases c⟩⟩,⟨(λ_ _ e=>by cases e),(λp c=>by cases c)⟩⟩;refine⟨some (p_ g 0),z,rfl,E,λJ=>⟨?_,?_,by omega,.inr ⟨g,0,rfl⟩,⟨.inr ⟨g,0,rfl,λj D=>?_⟩,λs t=>⟨(q s.p (mM_.2 ⟨s,t,rfl⟩)).1,G s t⟩⟩⟩,⟨(λu y e=>by cases e;exact(h.lt _ rfl).1),(λp c u y e=>((q p c).2 u y e).1)⟩⟩;obtain⟨_,_,I,_⟩:=r;omega;obtain⟨_,_,_,A,_⟩:=r;exact A;have e:∀i,i<4->w.cell? (p_ g (j*4+i))=(b[j]).cs[i]?:=λi C=>by rw[World.ownsRow.cellAt h (j*4+i) (by omega),zyE b j i D C]
 have f:=e 0 (by omega);have l:=e 1 (by omega);have m:=e 2 (by omega);have o:=e 3 (by omega);exact⟨by first|(simp[Sg.cs]at f|-;exact f)|simp[Sg.cs],by first|(simp[Sg.cs]at l|-;exact l)|simp[Sg.cs],by first|(simp[Sg.cs]at m|-;exact m)|simp[Sg.cs],by first|(simp[Sg.cs]at o|-;exact o)|simp[Sg.cs]⟩
end Go.Proofs.YtpnpikpmdfipfaaGreatDoor
