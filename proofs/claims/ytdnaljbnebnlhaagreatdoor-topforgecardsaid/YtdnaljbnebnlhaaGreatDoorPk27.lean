import Derived.Test.YtdnaljbnebnlhaaGreatDoorPk26
set_option maxRecDepth 100000
set_option maxHeartbeats 4000000
namespace Go.Proofs.YtdnaljbnebnlhaaGreatDoor
open Go.RowKit Tryz
theorem zi8 (b ys:List ByteArray)(j l:Option Addr)(n m f g:Nat)(w:World)(p:n=b.length)(o:m=ys.length)(E:zbu w j f b)(F:zbu w l g ys)(M:(n+m)*16<=140737488355328) :
  Calls prog 107 #[.slice j n f,.slice l m g] w λe w'=>∃v,e=.returned v/\w'.ownsRow w.heap.size 9 1 v (n+m) (sv (b++ys))/\B_ w w':=by
 obtain⟨i,D,G,H,I⟩:=info_parts zkf;have y:Hid (n=b.length):=p;have u:Hid (m=ys.length):=o;clear p o;have N:(n:Int)+m<=9223372036854775807:=by omega
 go_in;go_wp2_with (first
  | (at_make;refine wpList_make_own _ rfl _ _ 45 rfl w.heap.size 9 i (.string ByteArray.empty) 1 underlying45 D G H .i64 .i64 _ (n+m) rfl rfl (by go_num) (by rw[I];omega) (by unfold maxLen;omega) (nR_ _) ?_;intro O r A;have c:=zgP A)
  | (at_builtin;refine zfd rfl _ _ rfl w.heap.size J (0+n) b rfl s l m g ys rfl u.out (F.below d) (by omega) d.size ?_;intro L R t C;have z:=Below.grown d C d.size (λq e=>(s.lt q e).1))
  | (at_builtin;refine zfd rfl _ _ rfl w.heap.size _ 0 [] rfl r j n f b rfl y.out (E.below c) (by omega) c.size ?_;intro J w2 s B;have d:=Below.grown c B c.size (λq e=>(r.lt q e).1)))
 go_ret;refine⟨L,rfl,?_,z⟩;rw[Nat.zero_add]at t;exact t
theorem zo7 (nx:Int)(B:Option Addr)(n l:Nat)(ss:List ByteArray)(au:Int)(w:World)(hn:n=ss.length)(hs:zbu w B l ss) :
  Calls prog 133 #[.agg #[I_ nx,.slice B n l],I_ au] w λe w'=>zfN w w' e nx ss au:=by
 subst hn;refine kW_ ?A0 ?_;exact(w.alloc (.cells #[I_ nx,.slice B ss.length l] 110)).alloc (.cells #[I_ 0,O_] 110);refine kO_ ?B0 ?_;exact Obj.cells #[I_ 0,I_ 0,O_] 58;have hA:B_ w ((?A0).alloc ?B0):=(((bR_ _ _).alloc (nR_ _) _).alloc (by simp) _).alloc (by simp;omega) _;refine kA_ ?C0 ?_;exact #[I_ nx,.slice B ss.length l];refine kA_ ?D0 ?_;exact #[I_ 0,I_ 0,O_];have r0:=zR (o:=.cells ?D0 58) (hX_ w (.cells ?C0 110) (.cells #[I_ 0,O_] 110));have r1:=zR (o:=.cells ?D0 58) (hY_ w (.cells ?C0 110) (.cells #[I_ 0,O_] 110));have r2:=zco ?A0 ?B0 (w.heap.size+1+1) (by simp);have aT:=hs.le;have aY:=hs.max;have HC:Hid (∀W:World,B_ w W->Calls prog 105 #[.agg ?C0] W λe w'=>e=.returned (I_ (zaO nx ss))/\B_ W w'):=by
  show ∀_,_;intro W hW;exact zjr nx B _ l ss W rfl (hs.below hW)
 have HS:Hid (∀W:World,Calls prog 175 #[.agg ?C0,I_ au] W λe w'=>e=.returned (I_ (zcV nx ss au))/\B_ W w'):=by
  show ∀_,_;intro W;exact ztv nx B _ l ss au W rfl (by omega)
 have Z:Hid (zbu w B l ss):=hs;clear hs;go_in;go_wp2_with fail
 generalize (?A0).alloc ?B0=W0 at hA r0 r1 r2|-;refine(HC.out W0 hA).mono ?_;rintro _ w1⟨rfl,ag⟩;dsimp only;have an:=zm hA ag;have p0:=zk ag r0;have p1:=zk ag r1;have O:=zk ag r2;have c0:=zb p0 0 (I_ nx) rfl;have c1:=zb p0 1 (.slice B ss.length l) rfl;have d0:=zb p1 0 (I_ 0) rfl;have d1:=zb p1 1 (O_) rfl;have f0:=zd p1 0;have f1:=zd p1 1;have H:=zb O 0 (I_ 0) rfl;have I:=zb O 1 (I_ 0) rfl;have J:=zb O 2 (O_) rfl;have g0:=zd O 0;have g1:=zd O 1;have g2:=zd O 2;by_cases hc:zaO nx ss=0
 .have G:=zlA (au:=au) hc;obtain⟨ab,N,aU,_⟩:=zjP hc;rw[hc];go_wp2_with fail
  refine(HS.out w1).mono ?_;rintro _ w2⟨rfl,ah⟩;dsimp only;have aa:=zm an ah;have L:=zk ah p0;have q1:=zk ah p1;have M:=zk ah O;clear c0 c1 d0 d1 f0 f1 H I J g0 g1 g2;have c0:=zb L 0 (I_ nx) rfl;have c1:=zb L 1 (.slice B ss.length l) rfl;by_cases hk:zcV nx ss au=0
  .rw[hk]at G|-;have HF:Hid (zb4 nx ss au=0):=G;have aq:ss.length≠0/\nx<=1048576:=by
    unfold zcV at hk
    split at hk
    .cases hk
    .split at hk
     .cases hk
     .rename_i h1
      split at hk
      .cases hk
      .rename_i h2
       exact⟨h1,by omega⟩
   have hw:IntKind.i64.wrap (nx+1)=nx+1:=by rw[IntKind.wrap_i64];omega
   have aV:=ze M;obtain⟨K,hK⟩:∃K,K=min ss.length 4:=⟨_,rfl⟩;have aw:K<=ss.length:=by omega
   have ax:(K:Int)<=l:=by omega
   have aQ:(0:Int)<=K:=by omega
   have ay:(K:Int)<=ss.length:=by omega
   have hT:Hid (ss.take 4=ss.take K/\(ss.take 4).length=K):=by
    refine⟨?_,by rw[lT9_];omega⟩;rw[hK];by_cases h:ss.length<=4
    .rw[Nat.min_eq_left h,tL_ h,tL_ (nR_ _)]
    .rw[Nat.min_eq_right (by omega)]
   have hD:Hid (ss.drop 4=ss.drop K/\(ss.drop 4).length=ss.length-K):=by
    refine⟨?_,by rw[List.length_drop];omega⟩;rw[hK];by_cases h:ss.length<=4
    .rw[Nat.min_eq_left h,List.drop_of_length_le h,List.drop_of_length_le (nR_ _)]
    .rw[Nat.min_eq_right (by omega)]
   obtain⟨r,t,rfl,_⟩:∃r t,B=some ⟨r,t,none⟩/\∀j,j<ss.length->w.cell? ⟨r,t+j,none⟩=some (.string (ss.getD j ByteArray.empty)):=by
    rcases Z.out.strs.cells with h|h
    .rw[h]at aq;simp at aq
    .exact h
   have al:Hid (∀W:World,B_ w W->Calls prog 107 #[.slice (some ⟨r,t,none⟩) K l,O_] W λe w'=>∃v,e=.returned v/\w'.ownsRow W.heap.size 9 1 v K (sv (ss.take K))/\B_ W w'):=by
    show ∀_,_;intro W hW;have:=zi8 (ss.take K) [] (some ⟨r,t,none⟩) none K 0 l 0 W (by rw[lT9_];omega) rfl ⟨by rw[lT9_];omega,Z.out.max,(λe=>by cases e),(Z.out.strs.below hW).take K⟩ ⟨nR_ _,by decide,λ_=>rfl,⟨.inl rfl,λs h=>by cases h⟩⟩ (by omega);rw[List.append_nil,Nat.add_zero]at this;exact this
   have am:Hid (∀(W:World) (A:Option Addr) (m c:Nat),B_ w W->m=ss.length-K->m<=c->c<=l->A≠none->(A=some ⟨r,t+K,none⟩\/ss.length=K)->Calls prog 107 #[.slice A m c,O_] W λe w'=>∃v,e=.returned v/\w'.ownsRow W.heap.size 9 1 v m (sv (ss.drop K))/\B_ W w'):=by
    show ∀_,_;intro W A m c hW hm aX aS aA az;have aB:zas W A (ss.drop K):=by
     rcases az with rfl|h
     .exact(Z.out.strs.below hW).drop K
     .rw[List.drop_of_length_le (by omega)];exact⟨.inl rfl,λs h=>by cases h⟩
    have:=zi8 (ss.drop K) [] A none m 0 c 0 W (by rw[List.length_drop];exact hm) rfl ⟨by rw[List.length_drop];omega,by have:=Z.out.max;omega,(λe=>absurd e aA),aB⟩ ⟨nR_ _,by decide,λ_=>rfl,⟨.inl rfl,λs h=>by cases h⟩⟩ (by omega);rw[List.append_nil,Nat.add_zero]at this;exact this
   clear G hc hk aq;go_upto_region 7 with fail
   go_cut [9] (λv wx=>v=I_ (K:Int)/\w2=wx)
   case first=>
    by_cases h:ss.length<=4;have h4:(ss.length:Int)<=4:=by omega
    have hE:Hid ((ss.length:Int)=K):=by show _=_;omega
    rotate_left
    have h4:¬(ss.length:Int)<=4:=by omega
    have hE:Hid ((4:Int)=K):=by show _=_;omega
    rotate_left
    all_goals
     clear hK h aw ax ay;go_wp2_with fail
     go_meet
     case rel=>exact⟨by rw[<-hE.out]<;>exact congrArg (Value.int .i64) (by omega),rfl⟩
   refine kV_ ?E0 ?_;exact Value.slice (some ⟨r,t,none⟩) ss.length l
   case rest=>
    obtain⟨rfl,rfl⟩:=hcut;clear hK;go_upto_region 8 with fail
    go_cut [10] (λv wx=>∃b f g,v=(P_ b 0)/\w2.heap.size<=b/\B_ w2 wx/\R_ wx b #[I_ au,I_ nx,.slice f K g] 58/\wx.ownsRow w2.heap.size 9 1 (.slice f K g) K (sv (ss.take K)))
    case first=>
     clear am;have aI:(w2.alloc ?B0).drew.cell? ⟨w.heap.size,0,none⟩=some (I_ nx):=zb (zR L) 0 _ rfl;have aJ:(w2.alloc ?B0).drew.cell? ⟨w.heap.size,1,none⟩=some ?E0:=zb (zR L) 1 _ rfl;go_region_held3 (λw'=>w'.cell? ⟨w.heap.size,0,none⟩=some (I_ nx)/\w'.cell? ⟨w.heap.size,1,none⟩=some ?E0) (go_keep) (first
      | (go_at_call 107;refine(al.out w2.drew aa.drew).mono ?_;rintro e u⟨v3,rfl,ac,ao⟩;have ai:=zbE ao;have z:=zk ai L;have g0:u.cell? ⟨w.heap.size,0,none⟩=some (I_ nx):=zb z 0 _ rfl;have g1:u.cell? ⟨w.heap.size,1,none⟩=some ?E0:=zb z 1 _ rfl;obtain⟨f,g,rfl⟩:=zH ac;have aK:(u.alloc ?B0).cell? ⟨w.heap.size,0,none⟩=some (I_ nx):=zb (zR z) 0 _ rfl;have aL:(u.alloc ?B0).cell? ⟨w.heap.size,1,none⟩=some ?E0:=zb (zR z) 1 _ rfl;have aM:(u.alloc (.cells #[I_ au,I_ nx,.slice f K g] 58)).cell? ⟨w.heap.size,0,none⟩=some (I_ nx):=zb (zR z) 0 _ rfl;have aN:(u.alloc (.cells #[I_ au,I_ nx,.slice f K g] 58)).cell? ⟨w.heap.size,1,none⟩=some ?E0:=zb (zR z) 1 _ rfl)
      | (go_at_call 107;refine(al.out (w2.drew.alloc ?B0) (aa.drew.alloc aa.size _)).mono ?_;rintro e u⟨v3,rfl,ac,ao⟩;have ap:=ao;have z:=(ap.block _ (by rw[zG];have:=ze L;simp;omega)).trans (zR (o:=.cells ?D0 58) (w:=w2.drew) L);have R:=zbK ap;have g0:u.cell? ⟨w.heap.size,0,none⟩=some (I_ nx):=zb z 0 _ rfl;have g1:u.cell? ⟨w.heap.size,1,none⟩=some ?E0:=zb z 1 _ rfl;have e0:u.cell? ⟨w2.heap.size,0,none⟩=some (I_ 0):=zb R 0 _ rfl;have e1:u.cell? ⟨w2.heap.size,1,none⟩=some (I_ 0):=zb R 1 _ rfl;have e2:u.cell? ⟨w2.heap.size,2,none⟩=some (O_):=zb R 2 _ rfl;have k0:u.frozen? ⟨w2.heap.size,0,none⟩=false:=zd R 0;have k1:u.frozen? ⟨w2.heap.size,1,none⟩=false:=zd R 1;have k2:u.frozen? ⟨w2.heap.size,2,none⟩=false:=zd R 2;obtain⟨f,g,rfl⟩:=zH ac;have Y:w.heap.size≠w2.heap.size:=(by omega);have aP:(((u.setCell ⟨w2.heap.size,0,none⟩ (I_ au)).setCell ⟨w2.heap.size,1,none⟩ (I_ nx)).setCell ⟨w2.heap.size,2,none⟩ (.slice f K g)).cell? ⟨w.heap.size,0,none⟩=some (I_ nx):=zb (zh (zh (zh z Y) Y) Y) 0 _ rfl;have an:(((u.setCell ⟨w2.heap.size,0,none⟩ (I_ au)).setCell ⟨w2.heap.size,1,none⟩ (I_ nx)).setCell ⟨w2.heap.size,2,none⟩ (.slice f K g)).cell? ⟨w.heap.size,1,none⟩=some ?E0:=zb (zh (zh (zh z Y) Y) Y) 1 _ rfl))
     all_goals
      go_wp2_with fail
      go_meet
      case rel=>
       first
        | exact⟨w2.heap.size,f,g,rfl,nR_ _,((((zbE (zS ap)).setCell (by simp) _).setCell (by simp) _).setCell (by simp) _),by simpa using hS_ _ _ 2 _ _ (.slice f K g) (hS_ _ _ 1 _ _ (I_ nx) (hS_ _ _ 0 _ _ (I_ au) R)),ownsRow_base' (zQ (zQ (zQ ac _ _ _ (by simp)) _ _ _ (by simp)) _ _ _ (by simp)) (by simp)⟩
        | exact⟨u.heap.size,f,g,rfl,ai.size,ai.alloc ai.size _,hN_ u _,ownsRow_base' (oA_ ac _) (by simp)⟩
    case rest=>
     obtain⟨b,f,g,rfl,aR,aj,ae,ho⟩:=hcut;have ab:b≠w.heap.size+1:=by omega
     have N:b≠w.heap.size+1+1:=by omega
     have ak:w.heap.size≠w.heap.size+1:=by omega
     have X:w.heap.size≠w.heap.size+1+1:=by omega
     have V:=zm aa aj;have z:=zk aj L;have s1:=zk aj q1;have s2:=zk aj M;have b0:=zb ae 0 (I_ au) rfl;have b1:=zb ae 1 (I_ nx) rfl;refine kV_ ?F0 ?_;exact Value.slice f K g;have b2:=zb ae 2 ?F0 rfl;have aW:=ze s2;clear c0 c1;have c0:=zb z 0 (I_ nx) rfl;have c1:=zb z 1 ?E0 rfl;clear al;go_upto_region 9 with fail
     by_cases hcap:l=K
     all_goals
      go_region_held3 (λw'=>w'.cell? ⟨w.heap.size,0,none⟩=some (I_ nx)/\w'.cell? ⟨w.heap.size,1,none⟩=some ?E0/\w'.cell? ⟨b,0,none⟩=some (I_ au)/\w'.cell? ⟨b,1,none⟩=some (I_ nx)/\w'.cell? ⟨b,2,none⟩=some ?F0) (go_keep) ((go_at_call 107;refine(am.out wc.drew _ _ _ V.drew (by first|rfl|omega) (by omega) (by omega) (by simp) (by first|exact .inl rfl|exact .inr (by omega))).mono ?_;rintro e d⟨v4,rfl,ad,y⟩;replace y:=zbE y;have T:=zk y z;have D:=zk y s1;have C:=zk y s2;have E:=zk y ae;have x0:d.cell? ⟨w.heap.size,0,none⟩=some (I_ nx):=zb T 0 _ rfl;have x1:d.cell? ⟨w.heap.size,1,none⟩=some ?E0:=zb T 1 _ rfl;have y0:d.cell? ⟨b,0,none⟩=some (I_ au):=zb E 0 _ rfl;have y1:d.cell? ⟨b,1,none⟩=some (I_ nx):=zb E 1 _ rfl;have y2:d.cell? ⟨b,2,none⟩=some ?F0:=zb E 2 _ rfl;have e0:d.cell? ⟨w.heap.size+1,0,none⟩=some (I_ 0):=zb D 0 _ rfl;have e1:d.cell? ⟨w.heap.size+1,1,none⟩=some (O_):=zb D 1 _ rfl;have k0:=zd D 0;have k1:=zd D 1;have H:d.cell? ⟨w.heap.size+1+1,0,none⟩=some (I_ 0):=zb C 0 _ rfl;have I:d.cell? ⟨w.heap.size+1+1,1,none⟩=some (I_ 0):=zb C 1 _ rfl;have J:d.cell? ⟨w.heap.size+1+1,2,none⟩=some (O_):=zb C 2 _ rfl;have l0:=zd C 0;have l1:=zd C 1;have l2:=zd C 2;obtain⟨p,q,rfl⟩:=zH ad;have F:=zh (j:=1) (v:=.slice p (ss.length-K) q) (zh (j:=0) (v:=I_ (nx+1)) E ab) ab;have U:=zh (j:=2) (v:=.slice f K g) (zh (j:=1) (v:=I_ nx) (zh (j:=0) (v:=I_ au) F N) N) N;have aC:((d.setCell ⟨w.heap.size+1,0,none⟩ (I_ (nx+1))).setCell ⟨w.heap.size+1,1,none⟩ (.slice p (ss.length-K) q)).cell? ⟨b,0,none⟩=some (I_ au):=zb F 0 _ rfl;have aD:((d.setCell ⟨w.heap.size+1,0,none⟩ (I_ (nx+1))).setCell ⟨w.heap.size+1,1,none⟩ (.slice p (ss.length-K) q)).cell? ⟨b,1,none⟩=some (I_ nx):=zb F 1 _ rfl;have aE:((d.setCell ⟨w.heap.size+1,0,none⟩ (I_ (nx+1))).setCell ⟨w.heap.size+1,1,none⟩ (.slice p (ss.length-K) q)).cell? ⟨b,2,none⟩=some ?F0:=zb F 2 _ rfl;have aF:(((((d.setCell ⟨w.heap.size+1,0,none⟩ (I_ (nx+1))).setCell ⟨w.heap.size+1,1,none⟩ (.slice p (ss.length-K) q)).setCell ⟨w.heap.size+1+1,0,none⟩ (I_ au)).setCell ⟨w.heap.size+1+1,1,none⟩ (I_ nx)).setCell ⟨w.heap.size+1+1,2,none⟩ ?F0).cell? ⟨b,0,none⟩=some (I_ au):=zb U 0 _ rfl;have aG:(((((d.setCell ⟨w.heap.size+1,0,none⟩ (I_ (nx+1))).setCell ⟨w.heap.size+1,1,none⟩ (.slice p (ss.length-K) q)).setCell ⟨w.heap.size+1+1,0,none⟩ (I_ au)).setCell ⟨w.heap.size+1+1,1,none⟩ (I_ nx)).setCell ⟨w.heap.size+1+1,2,none⟩ ?F0).cell? ⟨b,1,none⟩=some (I_ nx):=zb U 1 _ rfl;have aH:(((((d.setCell ⟨w.heap.size+1,0,none⟩ (I_ (nx+1))).setCell ⟨w.heap.size+1,1,none⟩ (.slice p (ss.length-K) q)).setCell ⟨w.heap.size+1+1,0,none⟩ (I_ au)).setCell ⟨w.heap.size+1+1,1,none⟩ (I_ nx)).setCell ⟨w.heap.size+1+1,2,none⟩ ?F0).cell? ⟨b,2,none⟩=some ?F0:=zb U 2 _ rfl;have ar:=zh (j:=1) (v:=.slice p (ss.length-K) q) (zh (j:=0) (v:=I_ (nx+1)) T ak) ak;have af:=zh (j:=2) (v:=.slice f K g) (zh (j:=1) (v:=I_ nx) (zh (j:=0) (v:=I_ au) ar X) X) X;have o0:(((((d.setCell ⟨w.heap.size+1,0,none⟩ (I_ (nx+1))).setCell ⟨w.heap.size+1,1,none⟩ (.slice p (ss.length-K) q)).setCell ⟨w.heap.size+1+1,0,none⟩ (I_ au)).setCell ⟨w.heap.size+1+1,1,none⟩ (I_ nx)).setCell ⟨w.heap.size+1+1,2,none⟩ ?F0).cell? ⟨w.heap.size,0,none⟩=some (I_ nx):=zb af 0 _ rfl;have o1:(((((d.setCell ⟨w.heap.size+1,0,none⟩ (I_ (nx+1))).setCell ⟨w.heap.size+1,1,none⟩ (.slice p (ss.length-K) q)).setCell ⟨w.heap.size+1+1,0,none⟩ (I_ au)).setCell ⟨w.heap.size+1+1,1,none⟩ (I_ nx)).setCell ⟨w.heap.size+1+1,2,none⟩ ?F0).cell? ⟨w.heap.size,1,none⟩=some ?E0:=zb af 1 _ rfl))
      all_goals
       go_wp2_with fail
       refine bodyPost_ret (v:=.tuple #[.agg #[I_ (nx+1),.slice p (ss.length-K) q],.agg #[I_ au,I_ nx,?F0],I_ 0]) (by simp[results,results133,go_sem,e0,e1,H,I,J]) rfl (zfN.good HF.out hD.out.2.symm hT.out.2.symm ?_ ?_ ?_)
       .rw[hD.out.1];exact ownsRow_base' (zQ (zQ (zQ (zQ (zQ ad _ _ _ (by simp;omega)) _ _ _ (by simp;omega)) _ _ _ (by simp;omega)) _ _ _ (by simp;omega)) _ _ _ (by simp;omega)) (by simp;omega)
       .rw[hT.out.1];exact ownsRow_base' (zQ (zQ (zQ (zQ (zQ (zw ho y) _ _ _ (by omega)) _ _ _ (by omega)) _ _ _ (by omega)) _ _ _ (by omega)) _ _ _ (by omega)) (by omega)
       .exact((((((V.trans (y.mono V.size)).setCell (by simp<;>omega) _).setCell (by simp<;>omega) _).setCell (by simp<;>omega) _).setCell (by simp<;>omega) _).setCell (by simp<;>omega) _)
  .have d0:=zb q1 0 (I_ 0) rfl;have d1:=zb q1 1 (O_) rfl;have f0:=zd q1 0;have f1:=zd q1 1;have H:=zb M 0 (I_ 0) rfl;have I:=zb M 1 (I_ 0) rfl;have J:=zb M 2 (O_) rfl;have g0:=zd M 0;have g1:=zd M 1;have g2:=zd M 2;rw[<-G];have h9:¬zb4 nx ss au=0:=by rw[G];exact hk
   have aO:(zb4 nx ss au != 0)=true:=by simpa using h9
   have HF:Hid (zb4 nx ss au≠0):=h9;clear G hc hk h9;generalize hE:zb4 nx ss au=ec at*;go_wp2_with fail
   refine bodyPost_ret (v:=.tuple #[.agg #[I_ 0,O_],.agg ?D0,I_ ec]) (by simp[results,results133,go_sem,d0,d1,H,I,J]) rfl (zfN.bad hE HF.out ?_);exact(((((aa.setCell (by simp<;>omega) _).setCell (by simp<;>omega) _).setCell (by simp<;>omega) _).setCell (by simp<;>omega) _).setCell (by simp<;>omega) _)
 .have G:=zm4 (au:=au) hc;have av:zaO nx ss=12:=by rcases zkH nx ss with h|h;exact absurd h hc;exact h
  rw[av];clear hc av;go_wp2_with fail
  refine bodyPost_ret (v:=.tuple #[.agg #[I_ 0,O_],.agg ?D0,I_ 12]) (by simp[results,results133,go_sem,d0,d1,H,I,J]) rfl (zfN.bad G (by decide) ?_);exact(((((an.setCell (by simp<;>omega) _).setCell (by simp<;>omega) _).setCell (by simp<;>omega) _).setCell (by simp<;>omega) _).setCell (by simp<;>omega) _)
variable {w:World}{ss:List ByteArray}{base:Nat}{au:Int}
theorem zxv {nx:Int}(h:zb4 nx ss au=0):zbk au nx (ss.take 4)=0/\zaO (nx+1) (ss.drop 4)=0:=by
 have b:zaO nx ss=0:=by
  by_cases g:zaO nx ss=0
  .exact g
  .rw[zm4 g]at h;cases h
 rw[zlA b,zcV]at h;by_cases h1:¬(0<=au/\au<4)
 .rw[if_pos h1]at h;cases h
 rw[if_neg h1]at h;by_cases h2:ss.length=0
 .rw[if_pos h2]at h;cases h
 rw[if_neg h2]at h;by_cases h3:1048576<nx
 .rw[if_pos h3]at h;cases h
 rw[zaO]at b;by_cases g:¬(1<=nx/\nx<=1048577)\/40<ss.length
 .rw[if_pos g]at b;cases b
 rw[if_neg g]at b;by_cases g2:zen ss=true
 .obtain⟨d,f⟩:=zdJ.1 g2
  constructor
  .rw[zbk,if_neg (by omega),if_neg (by rw[lT9_];omega),if_pos];rw[List.all_eq_true];exact λs c=>d s (List.mem_of_mem_take c)
  .rw[zaO,if_neg (by rw[List.length_drop];omega),if_pos (zdJ.2 ⟨λs c=>d s (List.mem_of_mem_drop c),f.sublist (List.drop_sublist _ _)⟩)]
 .rw[if_neg g2]at b;cases b
theorem zl0 {nx:Int}(h:zaO nx ss=0):∀s∈ss,s.size<=maxLen:=by
 intro s b;rw[zaO]at h;by_cases g:¬(1<=nx/\nx<=1048577)\/40<ss.length
 .rw[if_pos g]at h;cases h
 rw[if_neg g]at h;by_cases g2:zen ss=true
 .have:=(zdJ.1 g2).1 s b;have c:1<=s.size/\s.size<=20:=of_decide_eq_true this;have d:(20:Nat)<=maxLen:=by unfold maxLen;omega
  omega
 .rw[if_neg g2]at h;cases h
theorem zo8 {A O:Int}{b:Option Addr}{j:Nat}(h:w.ownsRow base 9 1 (.slice b ss.length j) ss.length (sv ss))(p:∀s∈ss,s.size<=maxLen):zcN w ⟨⟨A,O,ss⟩,b,j⟩/\zbu w b j ss/\∀f l,b=some ⟨f,l,none⟩->base<=f:=by
 obtain⟨t,rc,e,_,c,o⟩:=zjo h p
 injection e with e1 e2 e3
 subst e1 e3;refine⟨⟨c.strs,c.le,c.max,c.nil,?_⟩,c,o⟩;intro f l e;rcases h.2 with⟨d,_⟩|⟨g,q,r,d,_,m,_⟩
 .injection d with e6;rw[show b=none from e6]at e;cases e
 .injection d with e6
  rw[show b=some ⟨g,0,none⟩from e6]at e
  injection e with e7;injection e7 with e8
  subst e8;exact ze m
theorem zun (nx:Int)(o:Option Addr)(m:Nat)(ss:List ByteArray)(au:Int):∃(q p r E:Int) (c b:List ByteArray),
  (∀w,zbu w o m ss->Calls prog 133 #[.agg #[I_ nx,.slice o ss.length m],I_ au] w λe w'=>∃j l d f,e=.returned (.tuple #[.agg #[I_ q,.slice j c.length l],.agg #[I_ p,I_ r,.slice d b.length f],I_ E])/\w'.ownsRow w.heap.size 9 1 (.slice j c.length l) c.length (sv c)/\w'.ownsRow w.heap.size 9 1 (.slice d b.length f) b.length (sv b)/\B_ w w') /\
  ((E≠0/\zb4 nx ss au≠0)\/(E=0/\zb4 nx ss au=0/\q=nx+1/\p=au/\r=nx/\c=ss.drop 4/\b=ss.take 4)):=by
 refine⟨znX nx ss au,znY nx ss au,zlz nx ss au,zb4 nx ss au,zly nx ss au,zlx nx ss au,?_,?_⟩
 .intro w A;refine(zo7 nx o _ m ss au w rfl A).mono (λe w' k=>?_);obtain⟨v,u,z,s,t,y⟩:=k.out;obtain⟨j,l,rfl⟩:=zH s;obtain⟨d,f,rfl⟩:=zH t;exact⟨j,l,d,f,z,s,t,y⟩
 .by_cases g:zb4 nx ss au=0
  .exact .inr ⟨g,g,if_pos g,if_pos g,if_pos g,if_pos g,if_pos g⟩
  .exact .inl ⟨g,g⟩
theorem zqk (x:NM)(w:World)(U:Nat->Bool)(F o:Nat)(T:TypeId)(fc:Array Value)(h:zo w U F o T fc x) :
  Calls prog 108 #[P_ F o] w λe w'=>(∃v,e=.returned v)/\zal w U F o T fc x w' x.v.gather:=by
 obtain⟨C,z,B,E,r,m,hS,hC⟩:=zun x.nx x.pa x.pc x.txs x.nu;refine kA_ ?C0 ?_;exact #[I_ x.nx,.slice x.pa x.txs.length x.pc];have HS:Hid (∀V:World,B_ w V->Calls prog 133 #[.agg ?C0,I_ x.nu] V λe w'=>∃f l c d,e=.returned (.tuple #[.agg #[I_ C,.slice f r.length l],.agg #[I_ z,I_ B,.slice c m.length d],I_ E])/\w'.ownsRow V.heap.size 9 1 (.slice f r.length l) r.length (sv r)/\w'.ownsRow V.heap.size 9 1 (.slice c m.length d) m.length (sv m)/\B_ V w'):=by
  show ∀V,_;intro V hV;exact hS V ((h.below hV).etx.sub (zK _ _))
 have HC:Hid _:=hC;clear hC hS;have k0:w.cell? ⟨F,o,none⟩=some (I_ x.nu):=h.cell 0 _ rfl;have k2:=h.cell 2 _ rfl;have k3:=h.cell 3 _ rfl;go_in;go_upto_region 0 with fail
 have ao:=dB_ w;refine wR_ (S:=λw'=>w'.cell? ⟨F,o,none⟩=some (I_ x.nu)/\w'.cell? ⟨F,o+2,none⟩=some (I_ x.nx)/\w'.cell? ⟨F,o+3,none⟩=some (.slice x.pa x.txs.length x.pc)) (by kernel_rfl) ⟨zr ao k0,zr ao k2,zr ao k3⟩ (λG=>?_);generalize w.drew=V0 at ao  G ⊢;refine tks_ 8 [(0,7,(P_ F o)),(1,8,(P_ F o)),(2,9,(P_ F (o+2))),(3,10,.agg ?C0),(4,11,(P_ F o)),(5,12,(P_ F o)),(6,13,(P_ F o)),(7,14,I_ x.nu)] G ?_;simp only[tkf_,zf];clear G;refine zno (λGO ag aa=>?_);refine znp (λA0 L=>?_);have bd:Hid (∀(V:World) (f:Option Addr) (l:Nat) (c:Option Addr) (d:Nat) (y:Nat) (t:Nat),B_ w V->(V.ownsRow w.heap.size 9 1 (.slice f r.length l) r.length (sv r))->(V.ownsRow w.heap.size 9 1 (.slice c m.length d) m.length (sv m))->(w.heap.size<=y)->(w.heap.size<=t)->(R_ V y #[I_ C,.slice f r.length l] 110)->(R_ V t #[I_ z,I_ B,.slice c m.length d] 58)->(y≠t)->GO 0 #[true,true,true,true,true,true,true,true,true,true,true,true,true,true,true,true,true,true] ((((((((A0.put (some 15) (.tuple #[.agg #[I_ C,.slice f r.length l],.agg #[I_ z,I_ B,.slice c m.length d],I_ E])).put (some 6) (.tuple #[.agg #[I_ C,.slice f r.length l],.agg #[I_ z,I_ B,.slice c m.length d],I_ E])).put (some 16) (.agg #[I_ C,.slice f r.length l])).put (some 17) (.agg #[I_ z,I_ B,.slice c m.length d])).put (some 18) (I_ E)).put (some 2) (P_ y 0)).put (some 3) (P_ t 0)).put (some 4) (I_ E)) V):=by
  show ∀V,_;intro V f l c d y t D o1 o2 gp gb pD bE ah;refine ag.out _ _ _ _ ?_;rw[<-L.out]
  try simp only[zf]
  refine wD_ (by kernel_rfl) ?_ _;clear GO ag aa;have aC:=h.bnd.new gb;have aD:=h.bnd.new gp;rcases HC.out with⟨hE,hF⟩|⟨hE,hF,hN,ay,aA,aB,az⟩
  .have eb:(E != 0)=true:=by simpa using hE
   have HG:Hid (x.v.gather=x.v):=if_pos hF;clear hF HC hE;go_wp2_with fail
   refine bP_ (results_none rfl _ _ _) rfl ?_;exact⟨⟨_,rfl⟩,by rw[HG.out];exact zal.quiet h D⟩
  .subst hE;obtain⟨g1,g2⟩:=zxv hF;rw[<-hN,<-aB]at g2;have hf:(⟨z,B,m⟩:BW).f=0:=by show zbk z B m=0;rw[ay,aA,az];exact g1
   have HG:Hid (x.v.gather=if zb1 (x.v.hearB ⟨z,B,m⟩).k.sh (⟨z,B,m⟩:BW).d then({ x.v.hearB ⟨z,B,m⟩with nx:=C,txs:=r }:Nd).sendAll (zed ⟨z,B,m⟩)else x.v.hearB ⟨z,B,m⟩):=by
    show _=_;rw[hN,ay,aA,aB,az,Nd.gather,if_neg (λg=>g hF)]
    rfl
   have aN:Hid (zaO C r=0):=g2;clear g1 g2 hN ay aA aB az hF HC;obtain⟨f1,f2,f3,f4⟩:=zh5 hf;have aG:=zo8 (A:=z) (O:=B) o2 (λs hs=>nT_ (f4 s hs) (by unfold maxLen;omega));have ak:=zo8 (A:=z) (O:=B) o1 (zl0 aN.out);have hV:=h.below D;have aH:zcN (zq U V) ⟨⟨z,B,m⟩,c,d⟩:=aG.1.hid (λsb so e=>h.bnd.new (aG.2.2 sb so e));have aW:zbu (zq U V) f l r:=⟨ak.2.1.le,ak.2.1.max,ak.2.1.nil,ak.2.1.strs.hid (λsb so e _=>h.bnd.new (ak.2.2 sb so e))⟩;have HB:=zlR x ⟨⟨z,B,m⟩,c,d⟩ V U F o T fc hV aH hf;have c0:=zb bE 0 _ rfl;have c1:=zb bE 1 _ rfl;have c2:=zb bE 2 _ rfl;clear aG ak o1 o2;have ar:Hid _:=aW;have aq:Hid _:=aH;clear aW aH;go_wp2_with fail
   refine HB.mono ?_;rintro e w1⟨⟨v,X⟩,U1,fc1,x1,h1,n1,v1⟩;subst X;dsimp only;clear HB c0 c1 c2;have au:=n1.box hV bE aC;have a7:=n1.box hV pD aD;have aS:=n1.hides (ze bE) aC;have bh:=n1.hides (ze pD) aD;have aI:zcN (zq U1 w1) ⟨⟨z,B,m⟩,c,d⟩:=aq.out.sub (n1.sub hV);have aX:zbu (zq U1 w1) f l r:=ar.out.sub (n1.sub hV);have aJ:=aI.sub (zK _ _);have a6:=(NTo.below (F:=F) (o:=o) U fc x D).trans n1;have ax:Hid _:=v1;have HD:=zis z B c _ d m w1 rfl aJ.strs hf f1 f2 f3 f4 (λsb so e=>aJ.lt sb so e) (h1.tabs.sub (zK _ _));clear v1 aJ pD bE aC aD n1 ar aq f1 f2 f3 f4;have ar:Hid _:=aX;have aq:Hid _:=aI;clear aX aI;have c0:=zb au 0 _ rfl;have c1:=zb au 1 _ rfl;have c2:=zb au 2 _ rfl;go_wp2_with fail
   refine HD.mono ?_;rintro e w2⟨g,X,hg,aE,aR⟩;subst X;dsimp only;clear HD c0 c1 c2 hg;have h2:=h1.below aE;have n2:=a6.trans (NTo.below (F:=F) (o:=o) U1 fc1 x1 aE);have an:=zgX x1 (⟨z,B,m⟩:BW).d (some ⟨g,0,none⟩) 32 32 w2 U1 F o T fc1 h2 (zhW _ _).symm aR;clear aR;rw[show zb1 (x.v.hearB ⟨z,B,m⟩).k.sh (⟨z,B,m⟩:BW).d=zb1 (shw x1.sh) (⟨z,B,m⟩:BW).d from by show _=zb1 x1.v.k.sh _;rw[ax.out]]at HG;generalize zb1 (shw x1.sh) (⟨z,B,m⟩:BW).d=q at an HG;cases q with
   | false=>
    go_wp2_with fail
    refine an.mono ?_;rintro _ w3⟨rfl,aj⟩;dsimp only;clear an;go_wp2_with fail
    refine bP_ (results_none rfl _ _ _) rfl ?_;exact⟨⟨_,rfl⟩,U1,fc1,x1,h2.below aj,n2.trans (NTo.below (F:=F) (o:=o) U1 fc1 x1 aj),by rw[HG.out,ax.out];rfl⟩
   | true=>
    go_wp2_with fail
    refine an.mono ?_;rintro _ w3⟨rfl,aj⟩;dsimp only;clear an;have h3:=h2.below aj;have aw:=zm aE aj;have n3:=n2.trans (NTo.below (F:=F) (o:=o) U1 fc1 x1 aj);have aO:=zk aw au;have aK:=zk aw a7;obtain⟨U4,aQ,x4,h4,n4,v4⟩:=h3.put_pool (nx':=C) (a':=f) (c':=l) (l':=r) (bR_ _ w3) (ar.out.sub (h1.later aw)) (h3.inv.pool_ aN.out);have a1:Hid _:=v4;clear v4;have d0:=zb aK 0 _ rfl;have d1:=zb aK 1 _ rfl;have k2:=h3.cell 2 _ rfl;have k3:=h3.cell 3 _ rfl;have j2:=h3.free (o+2);have j3:=h3.free (o+3);have aT:t≠F:=λe=>by rw[e,h1.fu]at aS;cases aS
    have av:=zh (b:=F) (j:=o+3) (v:=.slice f r.length l) (zh (b:=F) (j:=o+2) (v:=I_ C) aO aT) aT;have aU:zcN (zq U4 _) ⟨⟨z,B,m⟩,c,d⟩:=(aq.out.sub (h1.later aw)).sub (n4.sub h3);have aV:=ztU aU hf;go_upto_region 6 with fail
    generalize (w3.setCell ⟨F,o+2,none⟩ (I_ C)).setCell ⟨F,o+3,none⟩ (.slice f r.length l)=W4 at h4 n4 av aV|-;clear d0 d1 k2 k3 j2 j3 aO aK h3 aU;have c0:=zb av 0 _ rfl;have c1:=zb av 1 _ rfl;have c2:=zb av 2 _ rfl;have aM:=zmy ⟨⟨z,B,m⟩,c,d⟩ W4;go_wp2_with fail
    refine aM.mono ?_;rintro _ w5⟨rfl,aF⟩;dsimp only;clear aM c0 c1 c2;have HA:=zh7 x4 (zfr ⟨⟨z,B,m⟩,c,d⟩) w5 U4 F o T aQ (h4.below aF) (aV.sub (h4.later aF));go_wp2_with fail
    refine HA.mono ?_;rintro e w6⟨⟨v,X⟩,U6,fc6,x6,h6,n6,v6⟩;subst X;dsimp only;clear HA;go_wp2_with fail
    go_end0;refine⟨⟨_,rfl⟩,U6,fc6,x6,h6,(n3.trans n4).trans ((NTo.below (F:=F) (o:=o) U4 aQ x4 aF).trans n6),?_⟩;rw[v6,a1.out,HG.out];show({ x1.v with nx:=C,txs:=r }:Nd).sendAll _=_;rw[ax.out]
    rfl
 refine kA_ ?D0 ?_;exact #[I_ 0,I_ 0,O_];have bc:Hid (∀(V:World) (f:Option Addr) (l:Nat) (c:Option Addr) (d:Nat) (y:Nat) (t:Nat),B_ w V->(V.ownsRow w.heap.size 9 1 (.slice f r.length l) r.length (sv r))->(V.ownsRow w.heap.size 9 1 (.slice c m.length d) m.length (sv m))->(w.heap.size<=y)->(R_ V t ?D0 58)->(w.heap.size<=t)->(R_ V y #[I_ C,.slice f r.length l] 110)->(y≠t)->GO 2 #[true,true,true,true,true,true,true,true,true,true,true,true,true,true,true,true,false,false] (((((((A0.put (some 15) (.tuple #[.agg #[I_ C,.slice f r.length l],.agg #[I_ z,I_ B,.slice c m.length d],I_ E])).put (some 6) (.tuple #[.agg #[I_ C,.slice f r.length l],.agg #[I_ z,I_ B,.slice c m.length d],I_ E])).put (some 16) (.agg #[I_ C,.slice f r.length l])).put (some 17) (.agg #[I_ z,I_ B,.slice c m.length d])).put (some 18) (I_ E)).put (some 2) (P_ y 0)).put (some 3) (P_ t 0)) V):=by
  show ∀V,_;intro V f l c d y t D o1 o2 gp N gb pD ah;refine ag.out _ _ _ _ ?_;rw[<-L.out]
  try simp only[zf]
  refine zE 16 rfl (λK J=>?_);have al:=zc2 o1 N (by decide);have am:=zc2 o2 N (by decide);have a2:=zb N 0 _ rfl;have a4:=zd N 0;have a3:=zb N 1 _ rfl;have a5:=zd N 1;have bf:=zb N 2 _ rfl;have bg:=zd N 2;refine kW_ ?E0 ?_;exact((V.setCell ⟨t,0,none⟩ (I_ z)).setCell ⟨t,1,none⟩ (I_ B)).setCell ⟨t,2,none⟩ (.slice c m.length d);refine zX rfl rfl ?E0 (by go_simp) ?_;refine kV_ ?F0 ?_;exact Value.slice c m.length d;have u:=(((D.setCell (p:=⟨t,0,none⟩) gb (I_ z)).setCell (p:=⟨t,1,none⟩) gb (I_ B)).setCell (p:=⟨t,2,none⟩) gb ?F0);have aP:(?E0).heap[t]? = some (.cells #[I_ z,I_ B,?F0] 58 (0,0)):=by simpa using(hS_ _ _ 2 _ _ ?F0 (hS_ _ _ 1 _ _ (I_ B) (hS_ _ _ 0 _ _ (I_ z) N)))
  have ac:=(zaQ (zaQ (zaQ o1 t 0 (I_ z) al) t 1 (I_ B) al) t 2 ?F0 al);have ad:=(zaQ (zaQ (zaQ o2 t 0 (I_ z) am) t 1 (I_ B) am) t 2 ?F0 am);have ap:=(zh (j:=2) (v:=.slice c m.length d) (zh (j:=1) (v:=I_ B) (zh (j:=0) (v:=I_ z) pD ah) ah) ah);generalize ?E0=I at u aP ac ad ap|-;refine J.out _ _ ⟨zr u k0,zr u k2,zr u k3⟩ (λG=>?_);simp only[List.setIfInBounds_toArray,List.set_cons_zero,List.set_cons_succ];refine zU 17 4 (I_ E) rfl rfl G ?_;simp only[zf];clear G;have h:=bd.out I f l c d y t u ac ad gp gb ap aP ah;rw[<-L.out]at h
  (try simp only[zf]at h)
  (try simp only[zf])
  exact aa.out _ _ _ _ h
 have aL:Hid (∀(V:World) (f:Option Addr) (l:Nat) (c:Option Addr) (d:Nat) (y:Nat) (t:Nat),B_ w V->(V.ownsRow w.heap.size 9 1 (.slice f r.length l) r.length (sv r))->(V.ownsRow w.heap.size 9 1 (.slice c m.length d) m.length (sv m))->(R_ V y #[I_ 0,O_] 110)->(w.heap.size<=y)->(R_ V t ?D0 58)->(w.heap.size<=t)->(y≠t)->GO 3 #[true,true,true,true,true,true,true,true,true,true,true,true,true,true,true,false,false,false] (((((((A0.put (some 15) (.tuple #[.agg #[I_ C,.slice f r.length l],.agg #[I_ z,I_ B,.slice c m.length d],I_ E])).put (some 6) (.tuple #[.agg #[I_ C,.slice f r.length l],.agg #[I_ z,I_ B,.slice c m.length d],I_ E])).put (some 16) (.agg #[I_ C,.slice f r.length l])).put (some 17) (.agg #[I_ z,I_ B,.slice c m.length d])).put (some 18) (I_ E)).put (some 2) (P_ y 0)).put (some 3) (P_ t 0)) V):=by
  show ∀V,_;intro V f l c d y t D o1 o2 Z gp N gb ah;refine ag.out _ _ _ _ ?_;rw[<-L.out]
  try simp only[zf]
  refine zE 15 rfl (λK J=>?_);have al:=zc2 o1 Z (by decide);have am:=zc2 o2 Z (by decide);have a2:=zb Z 0 _ rfl;have a4:=zd Z 0;have a3:=zb Z 1 _ rfl;have a5:=zd Z 1;refine kW_ ?G0 ?_;exact(V.setCell ⟨y,0,none⟩ (I_ C)).setCell ⟨y,1,none⟩ (.slice f r.length l);refine zX rfl rfl ?G0 (by go_simp) ?_;refine kV_ ?H0 ?_;exact Value.slice f r.length l;have u:=((D.setCell (p:=⟨y,0,none⟩) gp (I_ C)).setCell (p:=⟨y,1,none⟩) gp ?H0);have ap:(?G0).heap[y]? = some (.cells #[I_ C,?H0] 110 (0,0)):=by simpa using(hS_ _ _ 1 _ _ ?H0 (hS_ _ _ 0 _ _ (I_ C) Z))
  have ac:=(zaQ (zaQ o1 y 0 (I_ C) al) y 1 ?H0 al);have ad:=(zaQ (zaQ o2 y 0 (I_ C) am) y 1 ?H0 am);have Y:=(zh (j:=1) (v:=.slice f r.length l) (zh (j:=0) (v:=I_ C) N (λe=>ah e.symm)) (λe=>ah e.symm));generalize ?G0=I at u ap ac ad Y|-;refine J.out _ _ ⟨zr u k0,zr u k2,zr u k3⟩ (λG=>?_);clear G;have h:=bc.out I f l c d y t u ac ad gp Y gb ap ah;rw[<-L.out]at h
  (try simp only[zf]at h)
  (try simp only[List.setIfInBounds_toArray,List.set_cons_zero,List.set_cons_succ])
  exact aa.out _ _ _ _ h
 refine kO_ ?A0 ?_;exact Obj.cells #[I_ 0,I_ 0,O_] 58;have aZ:Hid (∀(V:World) (f:Option Addr) (l:Nat) (c:Option Addr) (d:Nat) (y:Nat),B_ w V->(V.ownsRow w.heap.size 9 1 (.slice f r.length l) r.length (sv r))->(V.ownsRow w.heap.size 9 1 (.slice c m.length d) m.length (sv m))->(R_ V y #[I_ 0,O_] 110)->(w.heap.size<=y)->GO 4 #[true,true,true,true,true,true,true,true,true,true,true,true,true,true,false,false,false,false] ((((((A0.put (some 15) (.tuple #[.agg #[I_ C,.slice f r.length l],.agg #[I_ z,I_ B,.slice c m.length d],I_ E])).put (some 6) (.tuple #[.agg #[I_ C,.slice f r.length l],.agg #[I_ z,I_ B,.slice c m.length d],I_ E])).put (some 16) (.agg #[I_ C,.slice f r.length l])).put (some 17) (.agg #[I_ z,I_ B,.slice c m.length d])).put (some 18) (I_ E)).put (some 2) (P_ y 0)) V):=by
  show ∀V,_;intro V f l c d y D o1 o2 Z gp;refine ag.out _ _ _ _ ?_;rw[<-L.out]
  try simp only[zf]
  refine zE 14 rfl (λK J=>?_);refine zy rfl 3 rfl (P_ V.heap.size 0) (V.alloc ?A0) (by go_simp) ?_;have H:=zC V ?A0;have u:=zm D H;have Y:=hN_ V ?A0;have ae:=D.size;generalize hW':V.alloc ?A0=I at H u Y|-;clear hW';obtain⟨t,M⟩:∃t,t=V.heap.size:=⟨_,rfl⟩;rw[<-M]at Y ae|-;have ai:y≠t:=by have:=ze Z;omega
  have R:=H;clear M;refine J.out _ _ ⟨zr u k0,zr u k2,zr u k3⟩ (λG=>?_);clear G;have h:=aL.out I f l c d y t u (zw o1 R) (zw o2 R) ((R.block _ (ze Z)).trans Z) gp Y ae ai;rw[<-L.out]at h
  (try simp only[zf]at h)
  (try simp only[zf])
  exact aa.out _ _ _ _ h
 refine kO_ ?B0 ?_;exact Obj.cells #[I_ 0,O_] 110;have aY:Hid (∀(V:World) (f:Option Addr) (l:Nat) (c:Option Addr) (d:Nat) (t:Nat),B_ w V->(V.ownsRow w.heap.size 9 1 (.slice f r.length l) r.length (sv r))->(V.ownsRow w.heap.size 9 1 (.slice c m.length d) m.length (sv m))->(R_ V t ?D0 58)->(w.heap.size<=t)->GO 4 #[true,true,true,true,true,true,true,true,true,true,true,true,true,false,true,false,false,false] ((((((A0.put (some 15) (.tuple #[.agg #[I_ C,.slice f r.length l],.agg #[I_ z,I_ B,.slice c m.length d],I_ E])).put (some 6) (.tuple #[.agg #[I_ C,.slice f r.length l],.agg #[I_ z,I_ B,.slice c m.length d],I_ E])).put (some 16) (.agg #[I_ C,.slice f r.length l])).put (some 17) (.agg #[I_ z,I_ B,.slice c m.length d])).put (some 18) (I_ E)).put (some 3) (P_ t 0)) V):=by
  show ∀V,_;intro V f l c d t D o1 o2 N gb;refine ag.out _ _ _ _ ?_;rw[<-L.out]
  try simp only[zf]
  refine zE 13 rfl (λK J=>?_);refine zy rfl 2 rfl (P_ V.heap.size 0) (V.alloc ?B0) (by go_simp) ?_;have H:=zC V ?B0;have u:=zm D H;have ab:=hN_ V ?B0;have af:=D.size;generalize hW':V.alloc ?B0=I at H u ab|-;clear hW';obtain⟨y,M⟩:∃y,y=V.heap.size:=⟨_,rfl⟩;rw[<-M]at ab af|-;have ai:y≠t:=by have:=ze N;omega
  have R:=H;clear M;refine J.out _ _ ⟨zr u k0,zr u k2,zr u k3⟩ (λG=>?_);clear G;have h:=aL.out I f l c d y t u (zw o1 R) (zw o2 R) ab af ((R.block _ (ze N)).trans N) gb ai;rw[<-L.out]at h
  (try simp only[zf]at h)
  (try simp only[zf])
  exact aa.out _ _ _ _ h
 have ba:Hid (∀(V:World) (f:Option Addr) (l:Nat) (c:Option Addr) (d:Nat),B_ w V->(V.ownsRow w.heap.size 9 1 (.slice f r.length l) r.length (sv r))->(V.ownsRow w.heap.size 9 1 (.slice c m.length d) m.length (sv m))->GO 5 #[true,true,true,true,true,true,true,true,true,true,true,true,true,false,false,false,false,false] (((((A0.put (some 15) (.tuple #[.agg #[I_ C,.slice f r.length l],.agg #[I_ z,I_ B,.slice c m.length d],I_ E])).put (some 6) (.tuple #[.agg #[I_ C,.slice f r.length l],.agg #[I_ z,I_ B,.slice c m.length d],I_ E])).put (some 16) (.agg #[I_ C,.slice f r.length l])).put (some 17) (.agg #[I_ z,I_ B,.slice c m.length d])).put (some 18) (I_ E)) V):=by
  show ∀V,_;intro V f l c d D o1 o2;refine ag.out _ _ _ _ ?_;rw[<-L.out]
  try simp only[zf]
  refine wpAnyH_ready (rs:=[13,14]) (by kernel_rfl) (by simp) (AllReadyH.cons rfl (λK J=>?_) (AllReadyH.cons rfl (λK J=>?_) AllReadyH.nil));refine zy rfl 2 rfl (P_ V.heap.size 0) (V.alloc ?B0) (by go_simp) ?_;have H:=zC V ?B0;have u:=zm D H;have ab:=hN_ V ?B0;have af:=D.size;generalize hW':V.alloc ?B0=I at H u ab|-;clear hW';obtain⟨y,M⟩:∃y,y=V.heap.size:=⟨_,rfl⟩;rw[<-M]at ab af|-
  rotate_left
  refine zy rfl 3 rfl (P_ V.heap.size 0) (V.alloc ?A0) (by go_simp) ?_;have H:=zC V ?A0;have u:=zm D H;have Y:=hN_ V ?A0;have ae:=D.size;generalize hW':V.alloc ?A0=I at H u Y|-;clear hW';obtain⟨t,M⟩:∃t,t=V.heap.size:=⟨_,rfl⟩;rw[<-M]at Y ae|-
  rotate_left
  all_goals
   have R:=H;clear M;refine J.out _ _ ⟨zr u k0,zr u k2,zr u k3⟩ (λG=>?_);clear G
  have h:=aZ.out I f l c d y u (zw o1 R) (zw o2 R) ab af
  rotate_left
  have h:=aY.out I f l c d t u (zw o1 R) (zw o2 R) Y ae
  rotate_left
  all_goals
   rw[<-L.out]at h
   (try simp only[zf]at h)
   (try simp only[zf])
   exact aa.out _ _ _ _ h
 have a0:Hid (∀(V:World) (y:Nat) (t:Nat),B_ w V->(R_ V y #[I_ 0,O_] 110)->(w.heap.size<=y)->(R_ V t ?D0 58)->(w.heap.size<=t)->(y≠t)->GO 8 #[true,true,true,true,true,true,true,true,false,false,false,false,false,true,true,false,false,false] ((A0.put (some 2) (P_ y 0)).put (some 3) (P_ t 0)) V):=by
  show ∀V,_;intro V y t D Z gp N gb ah;refine ag.out _ _ _ _ ?_;rw[<-L.out]
  try simp only[zf]
  refine zE 8 rfl (λK J=>?_);refine zj rfl 15 rfl 133 [.tmp 10,.tmp 14] #[110,3] rfl [.agg ?C0,I_ x.nu] rfl (eO_ func133) (λv w'=>∃f l c d,v=.tuple #[.agg #[I_ C,.slice f r.length l],.agg #[I_ z,I_ B,.slice c m.length d],I_ E]/\w'.ownsRow w.heap.size 9 1 (.slice f r.length l) r.length (sv r)/\w'.ownsRow w.heap.size 9 1 (.slice c m.length d) m.length (sv m)/\B_ V w') ((HS.out V D).mono (λe w2 k=>by obtain⟨f,l,c,d,X,h1,h2,h3⟩:=k;exact⟨_,X,f,l,c,d,rfl,zcX h1 D.size,zcX h2 D.size,h3⟩)) ?_;rintro v I⟨f,l,c,d,rfl,ac,ad,hb⟩;have u:=zm D hb;refine J.out _ _ ⟨zr u k0,zr u k2,zr u k3⟩ (λG=>?_);simp only[zf];refine tks_ 4 [(9,6,.tuple #[.agg #[I_ C,.slice f r.length l],.agg #[I_ z,I_ B,.slice c m.length d],I_ E]),(10,16,.agg #[I_ C,.slice f r.length l]),(11,17,.agg #[I_ z,I_ B,.slice c m.length d]),(12,18,I_ E)] G ?_;simp only[tkf_,zf];clear G;have h:=aL.out I f l c d y t u ac ad (zk hb Z) gp (zk hb N) gb ah;rw[<-L.out]at h
  (try simp only[zf]at h)
  (try simp only[zf])
  exact aa.out _ _ _ _ h
 have be:Hid (∀(V:World) (y:Nat),B_ w V->(R_ V y #[I_ 0,O_] 110)->(w.heap.size<=y)->GO 9 #[true,true,true,true,true,true,true,true,false,false,false,false,false,true,false,false,false,false] (A0.put (some 2) (P_ y 0)) V):=by
  show ∀V,_;intro V y D Z gp;refine ag.out _ _ _ _ ?_;rw[<-L.out]
  try simp only[zf]
  refine wpAnyH_ready (rs:=[8,14]) (by kernel_rfl) (by simp) (AllReadyH.cons rfl (λK J=>?_) (AllReadyH.cons rfl (λK J=>?_) AllReadyH.nil));refine zj rfl 15 rfl 133 [.tmp 10,.tmp 14] #[110,3] rfl [.agg ?C0,I_ x.nu] rfl (eO_ func133) (λv w'=>∃f l c d,v=.tuple #[.agg #[I_ C,.slice f r.length l],.agg #[I_ z,I_ B,.slice c m.length d],I_ E]/\w'.ownsRow w.heap.size 9 1 (.slice f r.length l) r.length (sv r)/\w'.ownsRow w.heap.size 9 1 (.slice c m.length d) m.length (sv m)/\B_ V w') ((HS.out V D).mono (λe w2 k=>by obtain⟨f,l,c,d,X,h1,h2,h3⟩:=k;exact⟨_,X,f,l,c,d,rfl,zcX h1 D.size,zcX h2 D.size,h3⟩)) ?_;rintro v I⟨f,l,c,d,rfl,ac,ad,hb⟩;have u:=zm D hb
  rotate_left
  refine zy rfl 3 rfl (P_ V.heap.size 0) (V.alloc ?A0) (by go_simp) ?_;have H:=zC V ?A0;have u:=zm D H;have Y:=hN_ V ?A0;have ae:=D.size;generalize hW':V.alloc ?A0=I at H u Y|-;clear hW';obtain⟨t,M⟩:∃t,t=V.heap.size:=⟨_,rfl⟩;rw[<-M]at Y ae|-;have ai:y≠t:=by have:=ze Z;omega
  have R:=H;clear M
  rotate_left
  all_goals refine J.out _ _ ⟨zr u k0,zr u k2,zr u k3⟩ (λG=>?_)
  simp only[zf];refine tks_ 4 [(9,6,.tuple #[.agg #[I_ C,.slice f r.length l],.agg #[I_ z,I_ B,.slice c m.length d],I_ E]),(10,16,.agg #[I_ C,.slice f r.length l]),(11,17,.agg #[I_ z,I_ B,.slice c m.length d]),(12,18,I_ E)] G ?_;simp only[tkf_,zf];clear G;have h:=aZ.out I f l c d y u ac ad (zk hb Z) gp
  rotate_left
  clear G;have h:=a0.out I y t u ((R.block _ (ze Z)).trans Z) gp Y ae ai
  rotate_left
  all_goals
   rw[<-L.out]at h
   (try simp only[zf]at h)
   (try simp only[zf])
   exact aa.out _ _ _ _ h
 have a9:Hid (∀(V:World) (t:Nat),B_ w V->(R_ V t ?D0 58)->(w.heap.size<=t)->GO 9 #[true,true,true,true,true,true,true,true,false,false,false,false,false,false,true,false,false,false] (A0.put (some 3) (P_ t 0)) V):=by
  show ∀V,_;intro V t D N gb;refine ag.out _ _ _ _ ?_;rw[<-L.out]
  try simp only[zf]
  refine wpAnyH_ready (rs:=[8,13]) (by kernel_rfl) (by simp) (AllReadyH.cons rfl (λK J=>?_) (AllReadyH.cons rfl (λK J=>?_) AllReadyH.nil));refine zj rfl 15 rfl 133 [.tmp 10,.tmp 14] #[110,3] rfl [.agg ?C0,I_ x.nu] rfl (eO_ func133) (λv w'=>∃f l c d,v=.tuple #[.agg #[I_ C,.slice f r.length l],.agg #[I_ z,I_ B,.slice c m.length d],I_ E]/\w'.ownsRow w.heap.size 9 1 (.slice f r.length l) r.length (sv r)/\w'.ownsRow w.heap.size 9 1 (.slice c m.length d) m.length (sv m)/\B_ V w') ((HS.out V D).mono (λe w2 k=>by obtain⟨f,l,c,d,X,h1,h2,h3⟩:=k;exact⟨_,X,f,l,c,d,rfl,zcX h1 D.size,zcX h2 D.size,h3⟩)) ?_;rintro v I⟨f,l,c,d,rfl,ac,ad,hb⟩;have u:=zm D hb
  rotate_left
  refine zy rfl 2 rfl (P_ V.heap.size 0) (V.alloc ?B0) (by go_simp) ?_;have H:=zC V ?B0;have u:=zm D H;have ab:=hN_ V ?B0;have af:=D.size;generalize hW':V.alloc ?B0=I at H u ab|-;clear hW';obtain⟨y,M⟩:∃y,y=V.heap.size:=⟨_,rfl⟩;rw[<-M]at ab af|-;have ai:y≠t:=by have:=ze N;omega
  have R:=H;clear M
  rotate_left
  all_goals refine J.out _ _ ⟨zr u k0,zr u k2,zr u k3⟩ (λG=>?_)
  simp only[zf];refine tks_ 4 [(9,6,.tuple #[.agg #[I_ C,.slice f r.length l],.agg #[I_ z,I_ B,.slice c m.length d],I_ E]),(10,16,.agg #[I_ C,.slice f r.length l]),(11,17,.agg #[I_ z,I_ B,.slice c m.length d]),(12,18,I_ E)] G ?_;simp only[tkf_,zf];clear G;have h:=aY.out I f l c d t u ac ad (zk hb N) gb
  rotate_left
  clear G;have h:=a0.out I y t u ab af ((R.block _ (ze N)).trans N) gb ai
  rotate_left
  all_goals
   rw[<-L.out]at h
   (try simp only[zf]at h)
   (try simp only[zf])
   exact aa.out _ _ _ _ h
 have a8:Hid (∀(V:World),B_ w V->GO 10 #[true,true,true,true,true,true,true,true,false,false,false,false,false,false,false,false,false,false] A0 V):=by
  show ∀V,_;intro V  D;refine ag.out _ _ _ _ ?_;rw[<-L.out]
  try simp only[zf]
  refine wpAnyH_ready (rs:=[8,13,14]) (by kernel_rfl) (by simp) (AllReadyH.cons rfl (λK J=>?_) (AllReadyH.cons rfl (λK J=>?_) (AllReadyH.cons rfl (λK J=>?_) AllReadyH.nil)));refine zj rfl 15 rfl 133 [.tmp 10,.tmp 14] #[110,3] rfl [.agg ?C0,I_ x.nu] rfl (eO_ func133) (λv w'=>∃f l c d,v=.tuple #[.agg #[I_ C,.slice f r.length l],.agg #[I_ z,I_ B,.slice c m.length d],I_ E]/\w'.ownsRow w.heap.size 9 1 (.slice f r.length l) r.length (sv r)/\w'.ownsRow w.heap.size 9 1 (.slice c m.length d) m.length (sv m)/\B_ V w') ((HS.out V D).mono (λe w2 k=>by obtain⟨f,l,c,d,X,h1,h2,h3⟩:=k;exact⟨_,X,f,l,c,d,rfl,zcX h1 D.size,zcX h2 D.size,h3⟩)) ?_;rintro v I⟨f,l,c,d,rfl,ac,ad,hb⟩;have u:=zm D hb
  rotate_left
  refine zy rfl 2 rfl (P_ V.heap.size 0) (V.alloc ?B0) (by go_simp) ?_;have H:=zC V ?B0;have u:=zm D H;have ab:=hN_ V ?B0;have af:=D.size;generalize hW':V.alloc ?B0=I at H u ab|-;clear hW';obtain⟨y,M⟩:∃y,y=V.heap.size:=⟨_,rfl⟩;rw[<-M]at ab af|-;have R:=H;clear M
  rotate_left
  refine zy rfl 3 rfl (P_ V.heap.size 0) (V.alloc ?A0) (by go_simp) ?_;have H:=zC V ?A0;have u:=zm D H;have Y:=hN_ V ?A0;have ae:=D.size;generalize hW':V.alloc ?A0=I at H u Y|-;clear hW';obtain⟨t,M⟩:∃t,t=V.heap.size:=⟨_,rfl⟩;rw[<-M]at Y ae|-;have R:=H;clear M
  rotate_left
  all_goals refine J.out _ _ ⟨zr u k0,zr u k2,zr u k3⟩ (λG=>?_)
  simp only[zf];refine tks_ 4 [(9,6,.tuple #[.agg #[I_ C,.slice f r.length l],.agg #[I_ z,I_ B,.slice c m.length d],I_ E]),(10,16,.agg #[I_ C,.slice f r.length l]),(11,17,.agg #[I_ z,I_ B,.slice c m.length d]),(12,18,I_ E)] G ?_;simp only[tkf_,zf];clear G;have h:=ba.out I f l c d u ac ad
  rotate_left
  clear G;have h:=be.out I y u ab af
  rotate_left
  clear G;have h:=a9.out I t u Y ae
  rotate_left
  all_goals
   rw[<-L.out]at h
   (try simp only[zf]at h)
   (try simp only[zf])
   exact aa.out _ _ _ _ h
 exact a8.out V0 ao
theorem zfz (f:List Ct)(s:Nat)(b:Option Addr)(c:Nat)(g:Option Addr)(j:Nat)(ds:List zi)(w:World)(d:zee w s f b c g j ds) :
  Calls prog 94 #[P_ s 0] w λe w'=>e=.returned (.slice b f.length c)/\w=w':=by
 have l:=zb d.box 0 _ rfl;clear d;go_in;go_wp2_with fail
 go_ret;exact⟨rfl,rfl⟩
theorem zl1 (n:Int)(w:World)(h:0<=n/\n<4) :
  Calls prog 147 #[I_ n] w λe w'=>e=.returned (I_ (zcs n))/\w=w':=by
 have b:IntKind.i64.wrap (n+1)=n+1:=by rw[IntKind.wrap_i64];omega
 go_in;go_wp2_with fail
 go_ret;exact⟨rfl,rfl⟩
theorem zql (k:Kn)(e:Int)(l:List CV)(i:Nat)(b:i<l.length):zn k e (l.take (i+1))=ziY k (zn k e (l.take i)) l[i]:=by
 rw[tS_ b,zn,List.foldl_append]
 rfl
theorem zkR (x:NM)(rd:Int)(w:World)(U:Nat->Bool)(F o:Nat)(T:TypeId)(L:Array Value)(h:zo w U F o T L x)(hr:1<=rd/\rd<=1048577) :
  Calls prog 149 #[P_ F o,I_ rd] w λe w'=>e=.returned (I_ (zn x.v.k (max (rd-1) 1) x.v.k.dag))/\B_ w w':=by
 have ai:∀(fn:Fn) (first J:Array Value) (w:World),(Instr.makeFunc fn first J).run prog w=.ok (.func fn first J) w:=λ_ _ _ _=>rfl;obtain⟨ca,cc,da,dc,A⟩:=h.stkAt;have I:=h.cell 6 _ rfl;have ae:IntKind.i64.wrap (rd-1)=rd-1:=by rw[IntKind.wrap_i64];omega
 have C:=zfz x.ls x.s ca cc da dc x.ds w A;have af:x.ls.length<=400:=A.at'.small;go_in;go_upto_region 1 with fail
 go_cut [5] (λu wx=>u=I_ (max (rd-1) 1)/\w=wx)
 case first=>
  clear C I;by_cases hm:1<=rd-1;have D:Hid (max (rd-1) 1=rd-1):=by show _=_;omega
  have ah:¬(rd-1<1):=by omega
  rotate_left
  have D:Hid (max (rd-1) 1=1):=by show _=_;omega
  rotate_left
  all_goals
   go_wp2_with fail
   all_goals
    go_meet
    case rel=>exact⟨by rw[D.out],rfl⟩
 case rest=>
  obtain⟨rfl,hw⟩:=hcut;subst hw;apply_assumption;have aa:1<=max (rd-1) 1/\max (rd-1) 1<=1048577:=by omega
  obtain⟨f,H⟩:∃f,f=max (rd-1) 1:=⟨_,rfl⟩;rw[<-H]at aa|-;have X:Hid _:=H;clear H;clear ae;go_wp2_with fail
  refine C.mono ?_;rintro _ w1⟨rfl,rfl⟩;dsimp only;clear C I;go_wp2_with fail
  go_loopw [17,5] (λj u wr=>∃(k:Nat) (E:Int),k<=x.ls.length/\j=I_ k/\u=I_ E/\Hid (E=zn x.v.k f (x.v.k.dag.take k))/\B_ w wr) (λj _ _=>x.ls.length-(intOf j).toNat)
  case atStart=>exact⟨0,f,nZ_ _,rfl,rfl,rfl,bR_ _ _⟩
  case round=>
   obtain⟨k,E,hk,rfl,rfl,M,q⟩:=hrel;by_cases hlt:k<x.ls.length
   .have ag:(k:Int)<x.ls.length:=by omega
    obtain⟨sb,so,ad,Z,c1,c2,c3,c4⟩:=(A.below q).at'.certs.at k hlt;have O:za7 wr (x.ls[k]):=(A.below q).at'.each _ (gM_ hlt);have R:k<x.v.k.dag.length:=by show k<(zI x.ls).length;rw[zbv];exact hlt
    have V:x.v.k.dag[k]=(x.ls[k]).v:=by show(zI x.ls)[k]'_=_;simp[zI]
    have t:Hid _:=zql x.v.k f x.v.k.dag k R;rw[V,<-M.out]at t;have h1:=h.below q;rw[ad];clear R V;generalize x.ls[k]=c at*;have G:=zC wr (.cells (crow_ c) 64);have B:=hN_ wr (.cells (crow_ c) 64);go_upto_region 5 with fail
    generalize wr.alloc (.cells (crow_ c) 64)=Y at G B|-;have m:=zm q G;have h0:=h.below m;have a1:=zb B 1 _ rfl;have a2:=zb B 2 _ rfl;have y:=(O.below G).hat.lb;have l:=zfe 135 #[P_ F o] #[] (λd=>!zb1 (shw x.sh) d) (eO_ func135) c.bl c.ba _ c.bc Y rfl y.small y.parts (λp hp W N=>zgX x p.bs p.sa _ p.cap W U F o T L (h0.below N) rfl ((y.parts.each p hp).below N));have b:Hid (ziY x.v.k E c.v=if c.rd<E/\(bss c.bl).any (λd=>!zb1 (shw x.sh) d)=true then c.rd else E):=rfl;generalize ac:(bss c.bl).any (λd=>!zb1 (shw x.sh) d)=r at l b;clear ac Z c1 c2 c3 c4 O y;by_cases hlc:c.rd<E
    .cases r with
     | true=>
      rw[if_pos ⟨hlc,rfl⟩]at b;go_wp2_with fail
      refine l.mono ?_;rintro _ w2⟨rfl,z⟩;dsimp only;clear l;have r1:=zb (zk z B) 1 _ rfl;go_wp2_with fail
      go_roundw
      case rel=>exact⟨k+1,c.rd,by omega,by go_num,rfl,by show _=_;rw[t.out,b.out],m.trans (z.mono m.size)⟩
      case measure=>simp[intOf];omega
     | false=>
      rw[if_neg (λg=>by cases g.2)]at b;go_wp2_with fail
      refine l.mono ?_;rintro _ w2⟨rfl,z⟩;dsimp only;clear l;go_wp2_with fail
      go_roundw
      case rel=>exact⟨k+1,E,by omega,by go_num,rfl,by show _=_;rw[t.out,b.out],m.trans (z.mono m.size)⟩
      case measure=>simp[intOf];omega
    .rw[if_neg (λg=>hlc g.1)]at b;clear l;go_wp2_with fail
     go_roundw
     case rel=>exact⟨k+1,E,by omega,by go_num,rfl,by show _=_;rw[t.out,b.out],m⟩
     case measure=>simp[intOf];omega
   .obtain rfl:k=x.ls.length:=by omega
    have ab:Hid (E=zn x.v.k f x.v.k.dag):=by
     show _=_;rw[M.out,tL_ (by show(zI x.ls).length<=_;rw[zbv];exact nR_ _)]
    go_wp2_with fail
    go_ret;exact⟨by rw[<-X.out,<-ab.out];rfl,q⟩
def zlf (f:FuncId)(caps:Array Value)(P:CV->Bool)(ps:List Ct)(w:World):Prop:=
 ∀c∈ps,∀W:World,B_ w W->Calls prog f (#[.agg (crow_ c)]++caps) W λe w'=>e=.returned (.bool (P c.v))/\B_ W w'
theorem zmE (f:FuncId)(q:Array Value)(P:CV->Bool)(R:∀u w,(callFunc f u).run prog w=.ok (.enter f u) w)(vl:List Ct)(B:Option Addr)(n D:Nat)(w:World)(d:n=vl.length)(T:vl.length<=9000000000000000000)(H:zba w B vl)(y:zlf f q P vl w) :
  Calls prog 184 #[.slice B n D,.func (.func f) #[] q] w λe w'=>B_ w w'/\∃r:Int,e=.returned (I_ r)/\(((zI vl).any P=true/\0<=r)\/((zI vl).any P=false/\r=-1)):=by
 subst d;have C:Hid (zlf f q P vl w):=y;clear y;go_in;go_wp2_with fail
 go_loopw [8] (λi wr=>∃m:Nat,m<=vl.length/\i=I_ m/\(∀s∈vl.take m,P s.v=false)/\B_ w wr) (λi _=>vl.length-(intOf i).toNat)
 case atStart=>exact⟨0,nZ_ _,rfl,(λs c=>by simp at c),bR_ _ _⟩
 case round=>
  obtain⟨m,V,rfl,g,j⟩:=hrel;by_cases hlt:m<vl.length
  .have A:=H.below j;obtain⟨X,Y,rfl,J,L,M,N,O⟩:=A.at m hlt;have U:(m:Int)<vl.length:=by omega
   have p:Hid (P (vl[m]).v=true->(zI vl).any P=true):=by
    show _->_;intro h;exact List.any_eq_true.2 ⟨_,List.mem_map.2 ⟨_,gM_ hlt,rfl⟩,h⟩
   have o:Hid (P (vl[m]).v=false->∀s∈vl.take (m+1),P s.v=false):=by
    show _->_;intro h s c;rw[zjN hlt]at c;rcases c with c|rfl
    .exact g s c
    .exact h
   have l:=C.out (vl[m]) (gM_ hlt) wr j;clear g A;generalize vl[m]=t at*;go_wp2_with fail
   refine l.mono ?_;rintro _ Z⟨rfl,F⟩;dsimp only;have z:=zm j F;cases hP:P t.v with
   | true=>
    have I:Hid _:=p.out hP;clear p o hP l;go_wp2_with fail
    go_ret;exact⟨z,(m:Int),rfl,.inl ⟨I.out,by omega⟩⟩
   | false=>
    have d:Hid _:=o.out hP;clear p o hP l;go_wp2_with fail
    go_roundw
    case rel=>exact⟨m+1,by omega,by go_num,d.out,z⟩
    case measure=>simp[intOf];omega
  .obtain rfl:m=vl.length:=by omega
   have d:Hid ((zI vl).any P=false):=by
    show _=_;rw[tL_ (nR_ _)]at g;rw[List.any_eq_false];intro b E;obtain⟨s,c,rfl⟩:=List.mem_map.1 E;rw[g s c];simp
   clear g;go_wp2_with fail
   go_ret;exact⟨j,(-1:Int),rfl,.inr ⟨d.out,rfl⟩⟩
theorem zky (f:FuncId)(d:Array Value)(P:CV->Bool)(t:∀j w,(callFunc f j).run prog w=.ok (.enter f j) w)(vl:List Ct)(g:Option Addr)(n l:Nat)(w:World)(y:n=vl.length)(u:vl.length<=9000000000000000000)(z:zba w g vl)(m:zlf f d P vl w) :
  Calls prog 234 #[.slice g n l,.func (.func f) #[] d] w λe w'=>e=.returned (.bool ((zI vl).any P))/\B_ w w':=by
 subst y;have q:=zmE f d P t vl g _ l w rfl u z m;clear m;go_in;go_wp2_with fail
 refine q.mono ?_;rintro e A⟨o,r,s,p⟩;subst s;dsimp only;rcases p with⟨b,p⟩|⟨b,rfl⟩
 all_goals
  have c:Hid _:=b;clear b;go_wp2_with fail
  go_ret;exact⟨zN (by rw[c.out]),o⟩
open Go.WideMaps Go.Maps
variable {r:Int}
theorem zv6:Keyed prog 3:=int_keyed underlying3
theorem zwK (w:World):(zeroValue 3).run prog w=.ok (.int .i64 0) w:=by kernel_rfl
theorem zyC (h:-9223372036854775808<=r/\r<=9223372036854775807):keyOf prog 3 (.int .i64 r)=some (.int .i64 r):=keyOf_int_mk underlying3 (WalkArith.wf_i64 h)
structure zh8 (D:DataW Unit)(l:List CV):Prop where
 map:IsMap D
 at':∀r:Int,D.atKey (.int .i64 r) (.lit (.int .i64 0))=.lit (.int .i64 (zhn l r))
theorem zh8.none:zh8 (.map []) []:=⟨⟨[],rfl⟩,λ_=>rfl⟩
theorem zh8.step {D:DataW Unit}{l:List CV}(h:zh8 D l)(c:CV):zh8 (D.put (.int .i64 c.rd) (.lit (.int .i64 ((zhn l c.rd:Int)+1)))) (l++[c]):=by
 refine⟨h.map.put _ _,λr=>?_⟩;by_cases hr:r=c.rd
 .subst hr;rw[atKey_put_same h.map (show WideAt.IsKeyLit (.int .i64 c.rd)from trivial),zjQ,if_pos rfl]
  rfl
 .rw[atKey_put_other (by intro e;injection e with _ e;exact hr e),h.at',zjQ,if_neg (λe=>hr e.symm)]
  rfl
theorem zxw (l:List CV)(r:Int):zhn l r<=l.length:=List.length_filter_le _ _
theorem zhP {l:List CV}(h:zbV l=0){r:Int}(c:3<=(dgF l r).length):cnt l (r+1)<cnt l r/\r<=1048576:=by
 have b:=ztw l r 4 (by have:3<=(zc6 l r 4).length:=c;omega);refine⟨zx6 l r b,?_⟩;obtain⟨j,d,e⟩:=b;have:=zmk (zou h j d);omega
theorem zj3 (b:List Ct)(s:Nat)(ca:Option Addr)(cc:Nat)(da:Option Addr)(dc:Nat)(ds:List zi)(w:World)(E:zee w s b ca cc da dc ds)(M:zbV (zI b)=0) :
  Calls prog 93 #[.pointer (some ⟨s,0,none⟩)] w λe w'=>∃r:Int,e=.returned (.int .i64 r)/\zgS (zI b) r/\B_ w w':=by
 have u:Hid _:=M;clear M;have am:=@run_makeMap prog;have z:=(bR_ w.heap.size w).alloc (nR_ _) (.map #[] 0);have V:=E.below z;have b0:=zb V.box 0 _ rfl;have ao:=E.at'.small;have aa:Hid (∀c∈b,1<=c.rd/\c.rd<=1048576):=by
  show ∀c,_;exact λc hc=>zmk (znZ u.out c hc)
 go_in;go_wp2_with fail
 go_loopw [13] (λj wr=>∃(m:Nat) (D:DataW Unit),m<=b.length/\j=.int .i64 m/\Hid (zh8 D ((zI b).take m))/\wr.ownsMap prog 3 (plainElem prog 3) w.heap.size m D/\B_ w wr) (λj _=>b.length-(intOf j).toNat)
 case atStart=>exact⟨0,.map [],nZ_ _,rfl,zh8.none,World.ownsMap_made _ _ _ _,z⟩
 case round=>
  clear b0 V z;obtain⟨m,D,hm,rfl,o,T,A⟩:=hrel;by_cases hlt:m<b.length
  .obtain⟨sb,so,rfl,c0,c1,c2,c3,c4⟩:=(E.below A).at'.certs.at m hlt;have al:(m:Int)<b.length:=by omega
   have ah:=aa.out _ (gM_ hlt);have ab:Hid ((zI b).take (m+1)=(zI b).take m++[(b[m]).v]):=by
    show _=_;rw[tS_ (by simp[zI];exact hlt)];simp[zI]
   have I:Hid (zhn ((zI b).take m) (b[m]).rd<=400):=by
    show _<=_;have l:=zxw ((zI b).take m) (b[m]).rd;rw[lT9_]at l;omega
   generalize b[m]=x at*;obtain⟨U,ag⟩:=ah;go_upto_region 5 with fail
   have J:=(bR_ wr.heap.size wr).alloc (nR_ _) (.cells (crow_ x) 64);have X:=hN_ wr (.cells (crow_ x) 64);have C:=T.alloc (.cells (crow_ x) 64);generalize wr.alloc (.cells (crow_ x) 64)=W2 at J X C|-;have L:=zm A J;have d1:=zb X 1 _ rfl;have p:=zyC (r:=x.rd) (by omega);obtain⟨c,ai,d,-⟩:=C.lookup_int zv6 underlying185 underlying3 (zwK _) p;rw[o.out.at']at d;obtain⟨N,f⟩:∃N:Nat,zhn ((zI b).take m) x.rd=N:=⟨_,rfl⟩;rw[f]at d;have ak:N<=400:=by rw[<-f];exact I.out
   obtain rfl:c=(N:Int):=by injection d with h;injection h with _ h;exact h.symm
   have t:Hid (zh8 (D.put (.int .i64 x.rd) (.lit (.int .i64 ((N:Int)+1)))) ((zI b).take (m+1))):=by
    show zh8 _ _;rw[ab.out,<-f];exact o.out.step x.v
   clear f d I c0 c1 c2 c3 c4;have aj:=plainElem_int (H:=Unit) underlying3 (WalkArith.wf_i64 (n:=(N:Int)+1) (by omega));go_wp2_with (at_mapUpdate;refine wpList_mapUpdate_own _ rfl _ _ _ 185 rfl 3 3 zv6 underlying185 _ w.heap.size m _ rfl C (by unfold maxLen;omega) _ _ _ rfl rfl p _ [] aj ?_;intro Y af ae)
   have ad:=L.grown ae L.size (λj hj=>by cases hj;exact nR_ _);go_roundw
   case rel=>
    have O:∃(q:Nat) (F:DataW Unit),q<=b.length/\(Value.int .i64 ((m:Int)+1))=.int .i64 q/\Hid (zh8 F ((zI b).take q))/\Y.ownsMap prog 3 (plainElem prog 3) w.heap.size q F/\B_ w Y:=
     ⟨m+1,_,by omega,by go_num,t,af,ad⟩
    first|exact O|((repeat apply Exists.intro);exact⟨O,rfl⟩)
   case measure=>simp[intOf];omega
  .obtain rfl:m=b.length:=by omega
   have t:Hid (∀r,D.atKey (.int .i64 r) (.lit (.int .i64 0))=.lit (.int .i64 ((dgF (zI b) r).length:Int))):=by
    show ∀r,_;intro r;have h:=o.out.at' r;rw[tL_ (by rw[zbv];exact nR_ _)]at h;rw[zqQ u.out];exact h
   clear o;go_wp2_with fail
   go_loop [6] (λj=>∃r:Int,1<=r/\r<=1048577/\j=.int .i64 r/\Hid (∀k:Int,1<=k->k<r->3<=(dgF (zI b) k).length)) (λj=>cnt (zI b) (intOf j))
   case atStart=>exact⟨1,by decide,by decide,rfl,(show ∀k:Int,_ from λk l h2=>by omega)⟩
   case round=>
    obtain⟨r,U,ag,rfl,R⟩:=hrel;have p:=zyC (r:=r) (by omega);obtain⟨c,ai,d,-⟩:=T.lookup_int zv6 underlying185 underlying3 (zwK _) p;rw[t.out r]at d;obtain⟨N,f⟩:∃N:Nat,(dgF (zI b) r).length=N:=⟨_,rfl⟩;rw[f]at d;obtain rfl:c=(N:Int):=by injection d with h;injection h with _ h;exact h.symm
    have y:Hid _:=f;clear d f;by_cases h3:3<=N
    .have ac:(3:Int)<=N:=by omega
     have B:=zhP u.out (r:=r) (by rw[y.out];exact h3);have G:Hid (cnt (zI b) (r+1)<cnt (zI b) r):=B.1;have an:=B.2;clear B;have ap:IntKind.i64.wrap (r+1)=r+1:=by rw[IntKind.wrap_i64];omega
     go_wp2_with fail
     go_round
     case rel=>
      refine⟨r+1,by omega,by omega,rfl,(show ∀k:Int,_ from λk l h2=>?_)⟩;rcases Int.lt_or_le k r with g|g
      .exact R.out k l g
      .obtain rfl:k=r:=by omega
       rw[y.out];exact h3
     case measure=>first|exact G.out|(simp only[intOf];exact G.out)
    .have ac:¬(3:Int)<=N:=by omega
     have Z:Hid (zgS (zI b) r):=⟨U,R.out,by rw[y.out];omega⟩;go_wp2_with fail
     go_ret;exact⟨r,rfl,Z.out,A⟩
theorem zuo {l:List CV}(j:zbV l=0):∀(f:Nat) (r:Int),1<=r->(∀k:Int,1<=k->k<r->3<=(dgF l k).length)->cnt l r<=f->zgS l (zlI l r f):=by
 intro f
 induction f with
 | zero=>
  intro r d c m;refine⟨d,c,?_⟩;show(dgF l r).length<3;by_cases g:3<=(dgF l r).length
  .have:=(zhP j g).1;omega
  .omega
 | succ f ih=>
  intro r d c m;rw[zlI,<-zqQ j r];by_cases g:3<=(dgF l r).length
  .rw[if_pos g];refine ih (r+1) (by omega) (λk a b=>?_) (by have:=(zhP j g).1;omega);by_cases e:k=r
   .subst e;exact g
   .exact c k a (by omega)
  .rw[if_neg g];exact⟨d,c,by omega⟩
theorem zhs {l:List CV}(c:zbV l=0):zgS l (zdi l):=
 zuo c l.length 1 (by decide) (λk a b=>by omega) (List.length_filter_le _ _)
theorem zqm {l:List CV}(h:zbV l=0):1<=zdi l/\zdi l<=1048577:=by
 obtain⟨b,c,_⟩:=zhs h;refine⟨b,?_⟩;by_cases g:zdi l<=1
 .omega
 .have:=(zhP h (c (zdi l-1) (by omega) (by omega))).2;omega
theorem zsf (p:zi)(ys:List Int)(c:Option Addr)(d b:Nat)(w:World)(l:zg w p.sa p.cap p.bs)(j:zg w c d ys)(m:w.cell? ⟨b,0,none⟩=some (.slice c ys.length d)) :
  Calls prog 232 #[.slice p.sa p.bs.length p.cap,(P_ b 0)] w λe w'=>e=.returned (.bool (decide (zai p.bs=zai ys)))/\B_ w w':=by
 have f:Hid (decide (txL p.bs=txL ys)=decide (zai p.bs=zai ys)):=decide_eq_decide.2 zoN;go_in;go_wp2_with fail
 refine(zeI p.bs ys _ _ _ _ _ _ w rfl rfl l j).mono ?_;rintro _ o⟨rfl,rfl⟩;dsimp only;go_wp2_with fail
 go_ret;exact⟨by rw[f.out];rfl,bR_ _ _⟩
theorem zsg (c:Ct)(f:Int)(ys:List Int)(M:Option Addr)(N C D g F o:Nat)(w:World)(k1:w.cell? ⟨C,0,none⟩=some (P_ F o))(k0:w.cell? ⟨F,o,none⟩=some (I_ f))(k2:w.cell? ⟨D,0,none⟩=some (.func (.func 232) #[] #[P_ g 0]))(hg:w.cell? ⟨g,0,none⟩=some (.slice M ys.length N))(hk:zg w M N ys)(hc:za7 w c) :
  Calls prog 233 #[.agg (crow_ c),(P_ C 0),(P_ D 0)] w λe w'=>e=.returned (.bool (decide (c.v.au=f)&&c.v.bl.any λx=>decide (zai x=zai ys)))/\B_ w w':=by
 have b:=zC w (.cells (crow_ c) 64);have A:=hN_ w (.cells (crow_ c) 64);go_in;go_upto_region 1 with fail
 generalize w.alloc (.cells (crow_ c) 64)=y at b A|-;have X:=zr b k1;have U:=zr b k0;have Y:=zr b k2;have Z:=zr b hg;have E:=(hc.below b).hat.lb;have aa:=hk.below b;generalize w.heap.size=B at A|-;have R:=zb A 0 _ rfl;have T:=zb A 2 _ rfl;refine kV_ ?A0 ?_;exact Value.slice c.ba c.bl.length c.bc;have O:Hid (∀V:World,B_ y V->Calls prog 121 #[?A0,.func (.func 232) #[] #[P_ g 0]] V λe w'=>e=.returned (.bool ((bss c.bl).any λx=>decide (zai x=zai ys)))/\B_ V w'):=by
  show ∀V,_;intro V z;exact zfe 232 #[] #[P_ g 0] (λx=>decide (zai x=zai ys)) (eO_ func232) c.bl c.ba _ c.bc V rfl E.small (E.below z).parts (λp hp W L=>zsf p ys M N g W (((E.below z).parts.each p hp).below L) ((aa.below z).below L) (((z.trans (L.mono z.size)).cell (p:=⟨g,0,none⟩) (bL_ Z)).trans Z))
 have H:Hid (c.v.au=c.au/\c.v.bl=bss c.bl):=⟨rfl,rfl⟩;generalize hR:((bss c.bl).any λx=>decide (zai x=zai ys))=r at O;have HR:Hid _:=hR;clear hR E aa A;by_cases e:c.au=f;have J:(c.au == f)=true:=by simpa using e
 rotate_left
 have J:(c.au == f)=false:=by simpa using e
 rotate_left
 all_goals
  have G:Hid _:=e;clear e;have t:=dB_ y;have j:=dC_ R;have l:=dC_ T;have q:=dC_ X;have m:=dC_ U;have s:=dC_ Y;refine wR_ (S:=λw'=>w'.cell? ⟨B,0,none⟩=some (I_ c.au)/\w'.cell? ⟨B,2,none⟩=some ?A0/\w'.cell? ⟨C,0,none⟩=some (P_ F o)/\w'.cell? ⟨F,o,none⟩=some (I_ f)/\w'.cell? ⟨D,0,none⟩=some (.func (.func 232) #[] #[P_ g 0])) (by kernel_rfl) ⟨j,l,q,m,s⟩ (λd=>?_);generalize y.drew=I at t j l q m s d|-;refine tks_ 8 [(0,5,(P_ B 0)),(1,6,(P_ B 0)),(2,7,I_ c.au),(3,8,(P_ F o)),(4,9,(P_ F o)),(5,10,(P_ F o)),(6,11,I_ f),(7,12,.bool (c.au == f))] d ?_;simp only[tkf_,zf];rw[J]
 refine tks_ 5 [(8,13,.bool true),(9,14,(P_ B 0)),(10,15,(P_ B 2)),(11,16,.slice c.ba c.bl.length c.bc),(12,17,.func (.func 232) #[] #[P_ g 0])] d ?_;simp only[tkf_,zf];refine zE 13 rfl (λK9 hK=>?_);refine zaJ (by rfl) 18 rfl 121 [.tmp 16,.tmp 17] #[59,186] rfl [?A0,.func (.func 232) #[] #[P_ g 0]] rfl (eO_ func121) (λv w'=>v=.bool r/\B_ I w') ((O.out I t).mono (λe w' k=>⟨_,k.1,rfl,k.2⟩)) ?_;rintro v V1⟨rfl,u⟩;have ag:=zm t u;have ab:=zr u j;have ac:=zr u l;have ae:=zr u q;have ad:=zr u m;have af:=zr u s;refine hK.out _ _ ⟨ab,ac,ae,ad,af⟩ (λd=>?_);simp only[zf];refine tks_ 2 [(14,19,.bool r),(15,4,.bool r)] d ?_
 rotate_left
 refine tks_ 8 [(8,13,.bool false),(9,14,undef),(10,15,undef),(11,16,undef),(12,17,undef),(13,18,undef),(14,19,.bool false),(15,4,.bool false)] d ?_
 rotate_left
 all_goals
  simp only[tkf_,zf];clear d;refine wD_ (by kernel_rfl) ?_ _;go_wp2_with fail
  go_ret
 .exact⟨by rw[H.out.1,H.out.2,HR.out,G.out];simp,b.trans (ag.mono b.size)⟩
 .exact⟨by rw[H.out.1,dF_ G.out];rfl,b.trans (t.mono b.size)⟩
theorem zsh (x:NM)(ys:List Int)(b:Option Addr)(kn d:Nat)(w:World)(U:Nat->Bool)(F o:Nat)(T:TypeId)(fc:Array Value)(h:zo w U F o T fc x)(ab:kn=ys.length)(hk:zg w b d ys) :
  Calls prog 209 #[P_ F o,.slice b kn d] w λe w'=>e=.returned (.bool (zin x.v.k x.nu ys))/\B_ w w':=by
 subst ab;have ad:∀(fn:Fn) (first L:Array Value) (w:World),(Instr.makeFunc fn first L).run prog w=.ok (.func fn first L) w:=λ_ _ _ _=>rfl;have ae:∀(a:Addr) (fn:Fn) (C f:Array Value) (m:Mode) (w:World),(store a (.func fn C f) m).run prog w=stored prog w a (.func fn C f) m:=λa fn C f m w=>run_store _ w a _ m rfl;refine kO_ ?A0 ?_;exact Obj.cells #[.slice b ys.length d] 51;refine kO_ ?C0 ?_;exact Obj.cells #[P_ F o] 127;have E:B_ w ((w.alloc ?C0).alloc ?A0):=((bR_ _ _).alloc (nR_ _) _).alloc (by simp) _;have t:=hX_ w ?C0 ?A0;have u:=hY_ w ?C0 ?A0;go_in;go_upto_region 1 with fail
 generalize (w.alloc ?C0).alloc ?A0=q at E t u|-;generalize w.heap.size+1=j at u|-;generalize Y:w.heap.size=R at t|-;have ac:Hid _:=Y;clear Y;refine kO_ ?B0 ?_;exact Obj.cells #[.func (.func 232) #[] #[P_ j 0]] 186;have y:=hN_ q ?B0;have s:=zC q ?B0;have H:=zk s t;have I:=zk s u;have l:=zm E s;go_upto_region 3 with fail
 generalize q.alloc ?B0=B at l H I y|-;generalize q.heap.size=V at y|-;clear E t u s;have D:=h.below l;have Z:=hk.below l;have d0:=zb H 0 _ rfl;have N:=zb I 0 _ rfl;have O:=zb y 0 (.func (.func 232) #[] #[P_ j 0]) rfl;have k0:B.cell? ⟨F,o,none⟩=some (I_ x.nu):=D.cell 0 _ rfl;have c6:=D.cell 6 _ rfl;obtain⟨f,M,da,dc,p⟩:=D.stkAt;have J:=zfz x.ls x.s f M da dc x.ds B p;have A:=zky 233 #[P_ R 0,(P_ V 0)] (λc=>decide (c.au=x.nu)&&c.bl.any λz=>decide (zai z=zai ys)) (eO_ func233) x.ls f _ M B rfl (by have:=p.at'.small;omega) p.at'.certs (λc hc W g=>zsg c x.nu ys b d R V j F o W (zr g d0) (zr g k0) (zr g O) (zr g N) (Z.below g) ((p.at'.each c hc).below g));have X:Hid ((zI x.ls).any (λc=>decide (c.au=x.nu)&&c.bl.any λz=>decide (zai z=zai ys))=zin x.v.k x.nu ys):=rfl;generalize (zI x.ls).any (λc=>decide (c.au=x.nu)&&c.bl.any λz=>decide (zai z=zai ys))=r at A X;clear H I y k0 N O Z p;go_wp2_with fail
 refine J.mono ?_;rintro _ w1⟨rfl,rfl⟩;dsimp only;clear J;go_wp2_with fail
 refine A.mono ?_;rintro _ w1⟨rfl,aa⟩;dsimp only;clear A;go_wp2_with fail
 go_ret;exact⟨by rw[X.out];rfl,l.trans (aa.mono l.size)⟩
end Go.Proofs.YtdnaljbnebnlhaaGreatDoor
