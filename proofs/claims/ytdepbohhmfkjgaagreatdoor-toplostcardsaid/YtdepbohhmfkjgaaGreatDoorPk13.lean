import Derived.Test.YtdepbohhmfkjgaaGreatDoorPk11
import Derived.Test.YtdepbohhmfkjgaaGreatDoorPk12
set_option maxRecDepth 100000
set_option maxHeartbeats 4000000
namespace Go.Proofs.YtdepbohhmfkjgaaGreatDoor
open Go.RowKit Tryz
theorem zhc (au c:Int)(y:Option Addr)(n t:Nat)(ss:List ByteArray)(w:World)(H:n=ss.length)(G:n≤maxLen)(u:zas w y ss) :
  Calls prog 74 #[.agg #[I_ au,I_ c,.slice y n t]] w fun e w'=>e=.returned (I_ (zba au c ss))∧B_ w w':=by
 subst H;unfold maxLen at G;by_cases ha:0≤au∧au<4
 ·by_cases hr:1≤c∧c≤1048576
  ·by_cases hl:ss.length<1∨4<ss.length
   ·have b:Hid (zba au c ss=1):=by show _=_;rw[zba,if_neg (by simp[ha,hr]),if_pos hl]
    have M:¬(1≤(ss.length:Int)∧(ss.length:Int)≤4):=by omega
    rcases hl with hl|hl;have D:ss.length=0:=by omega
    rw[D]
    rotate_left
    have E:(4:Int)<ss.length:=by omega
    have F:¬(ss.length:Int)<1:=by omega
    rotate_left
    all_goals
     go_in;go_wp2_with (first|(go_at_call 55;first|(refine (zaJ _ _ (by omega)).mono ?_;rintro e w' ⟨rfl,rfl⟩)|(refine (zax _ _ (by omega)).mono ?_;rintro e w' ⟨rfl,rfl⟩))|(go_at_call 78;first|(refine (zbo _ _ (by omega)).mono ?_;rintro e w' ⟨rfl,rfl⟩)|(refine (za8 _ _ (by omega)).mono ?_;rintro e w' ⟨rfl,rfl⟩)))
     go_ret;exact ⟨zp b.out.symm,(bR_ _ _).alloc (nR_ _) _⟩
   ·have b:Hid (zba au c ss=if ss.all zbA then 0 else 1):=by show _=_;rw[zba,if_neg (by simp[ha,hr]),if_neg hl]
    have E:¬(4:Int)<ss.length:=by omega
    have F:¬(ss.length:Int)<1:=by omega
    go_in;go_wp2_with (first|(go_at_call 55;first|(refine (zaJ _ _ (by omega)).mono ?_;rintro e w' ⟨rfl,rfl⟩)|(refine (zax _ _ (by omega)).mono ?_;rintro e w' ⟨rfl,rfl⟩))|(go_at_call 78;first|(refine (zbo _ _ (by omega)).mono ?_;rintro e w' ⟨rfl,rfl⟩)|(refine (za8 _ _ (by omega)).mono ?_;rintro e w' ⟨rfl,rfl⟩)))
    go_loop [28] (fun i=>∃ k:Nat,k≤ss.length∧i=I_ k∧∀ q,q<k→zbA (ss.getD q ByteArray.empty)=true) (fun i=>ss.length-(intOf i).toNat)
    case atStart=>exact ⟨0,nZ_ _,rfl,fun q I=>by omega⟩
    case round=>
     obtain ⟨k,L,rfl,r⟩:=hrel;by_cases hlt:k<ss.length
     ·rcases u.cells with l|⟨z,A,rfl,l⟩
      ·subst l;simp at hlt
      have N:(k:Int)<ss.length:=by omega
      have o:=l k hlt;have J:=(((bR_ w.heap.size w).alloc (nR_ _) (.cells #[I_ au,I_ c,.slice (some ⟨z,A,none⟩) ss.length t] 62)).cell (p:=⟨z,A+k,none⟩) (bL_ o)).trans o;have O:(ss.getD k ByteArray.empty).size≤9223372036854775807:=u.size _ (by simp[List.getD,hlt]);have f:zbA (ss.getD k ByteArray.empty)=decide (1≤(ss.getD k ByteArray.empty).size∧(ss.getD k ByteArray.empty).size≤20):=rfl;have m:Hid (zbA (ss.getD k ByteArray.empty)=true→∀ q,q<k+1→zbA (ss.getD q ByteArray.empty)=true):=by
       show _→_;intro h q I;rcases Nat.lt_or_ge q k with g|g
       ·exact r q g
       ·obtain rfl:q=k:=by omega
        exact h
      have j:Hid (zbA (ss.getD k ByteArray.empty)=false→ss.all zbA=false):=by
       show _→_;exact zqL ss zbA ByteArray.empty k hlt
      clear r l o;generalize ss.getD k ByteArray.empty=s at *;by_cases h1:1≤s.size
      ·have B:¬(s.size:Int)<1:=by omega
       by_cases h2:s.size≤20
       ·have C:¬(20:Int)<s.size:=by omega
        have d:=m.out (by rw[f];simp[h1,h2]);clear f m j;go_wp2_with fail
        go_round
        case rel=>exact ⟨k+1,by omega,by go_num,d⟩
        case measure=>simp[intOf];omega
       ·have C:(20:Int)<s.size:=by omega
        have d:=j.out (by rw[f];simp[h2]);clear f m j;rw[d] at b;go_wp2_with fail
        go_ret;exact ⟨zp (by rw[b.out];rfl),(bR_ _ _).alloc (nR_ _) _⟩
      ·have B:(s.size:Int)<1:=by omega
       have d:=j.out (by rw[f];simp[h1]);clear f m j;rw[d] at b;go_wp2_with fail
       go_ret;exact ⟨zp (by rw[b.out];rfl),(bR_ _ _).alloc (nR_ _) _⟩
     ·obtain rfl:k=ss.length:=by omega
      have d:=zsM ss zbA ByteArray.empty r;rw[d] at b;go_wp2_with fail
      go_ret;exact ⟨zp (by rw[b.out];rfl),(bR_ _ _).alloc (nR_ _) _⟩
  ·have b:Hid (zba au c ss=2):=by show _=_;simp[zba,hr]
   go_in;go_wp2_with (first|(go_at_call 55;first|(refine (zaJ _ _ (by omega)).mono ?_;rintro e w' ⟨rfl,rfl⟩)|(refine (zax _ _ (by omega)).mono ?_;rintro e w' ⟨rfl,rfl⟩))|(go_at_call 78;first|(refine (zbo _ _ (by omega)).mono ?_;rintro e w' ⟨rfl,rfl⟩)|(refine (za8 _ _ (by omega)).mono ?_;rintro e w' ⟨rfl,rfl⟩)))
   go_ret;exact ⟨zp b.out.symm,(bR_ _ _).alloc (nR_ _) _⟩
 ·have b:Hid (zba au c ss=2):=by show _=_;simp[zba,ha]
  go_in;go_wp2_with (first|(go_at_call 55;first|(refine (zaJ _ _ (by omega)).mono ?_;rintro e w' ⟨rfl,rfl⟩)|(refine (zax _ _ (by omega)).mono ?_;rintro e w' ⟨rfl,rfl⟩))|(go_at_call 78;first|(refine (zbo _ _ (by omega)).mono ?_;rintro e w' ⟨rfl,rfl⟩)|(refine (za8 _ _ (by omega)).mono ?_;rintro e w' ⟨rfl,rfl⟩)))
  go_ret;exact ⟨zp b.out.symm,(bR_ _ _).alloc (nR_ _) _⟩
theorem zmS (m:Msg)(ss:List ByteArray)(w:World)(l:m.ki=1)(d:m.btn=ss.length)(c:m.btn≤maxLen)(o:zas w m.bta ss) :
  Calls prog 56 #[.agg #[I_ m.fr,I_ m.tt,I_ m.ki,I_ m.bau,I_ m.bnu,.slice m.bta m.btn m.btc,I_ m.hau,I_ m.hrd,.slice m.hba m.hbn m.hbc,.slice m.hpa m.hpn m.hpc,I_ m.sau,I_ m.srd,.slice m.sda m.sdn m.sdc,I_ m.cau,I_ m.crd,.slice m.cba m.cbn m.cbc,.slice m.cpa m.cpn m.cpc,.slice m.cva m.cvn m.cvc,I_ m.ro]] w fun e w'=>e=.returned (I_ (zba m.bau m.bnu ss))∧B_ w w':=by
 have f:=zO w (.cells #[I_ m.fr,I_ m.tt,I_ m.ki,I_ m.bau,I_ m.bnu,.slice m.bta m.btn m.btc,I_ m.hau,I_ m.hrd,.slice m.hba m.hbn m.hbc,.slice m.hpa m.hpn m.hpc,I_ m.sau,I_ m.srd,.slice m.sda m.sdn m.sdc,I_ m.cau,I_ m.crd,.slice m.cba m.cbn m.cbc,.slice m.cpa m.cpn m.cpc,.slice m.cva m.cvn m.cvc,I_ m.ro] 71);have b:=zhc m.bau m.bnu m.bta m.btn m.btc ss _ d c (o.below f);rw[l] at b ⊢;clear d c;go_in;go_wp2_with fail
 refine b.mono ?_;rintro _ p ⟨rfl,g⟩;dsimp only;go_wp2_with fail
 go_ret;exact ⟨rfl,zV g⟩
theorem zn2 (m:Msg)(bl pl:List zi)(w:World)(g:m.ki=2)(b:m.hbn=bl.length)(c:m.hpn=pl.length)(j:zy w m.hba m.hbc bl)(p:zy w m.hpa m.hpc pl) :
  Calls prog 56 #[.agg #[I_ m.fr,I_ m.tt,I_ m.ki,I_ m.bau,I_ m.bnu,.slice m.bta m.btn m.btc,I_ m.hau,I_ m.hrd,.slice m.hba m.hbn m.hbc,.slice m.hpa m.hpn m.hpc,I_ m.sau,I_ m.srd,.slice m.sda m.sdn m.sdc,I_ m.cau,I_ m.crd,.slice m.cba m.cbn m.cbc,.slice m.cpa m.cpn m.cpc,.slice m.cva m.cvn m.cvc,I_ m.ro]] w fun e w'=>e=.returned (I_ (zK m.hau m.hrd bl pl))∧B_ w w':=by
 have d:=zO w (.cells #[I_ m.fr,I_ m.tt,I_ m.ki,I_ m.bau,I_ m.bnu,.slice m.bta m.btn m.btc,I_ m.hau,I_ m.hrd,.slice m.hba m.hbn m.hbc,.slice m.hpa m.hpn m.hpc,I_ m.sau,I_ m.srd,.slice m.sda m.sdn m.sdc,I_ m.cau,I_ m.crd,.slice m.cba m.cbn m.cbc,.slice m.cpa m.cpn m.cpc,.slice m.cva m.cvn m.cvc,I_ m.ro] 71);have f:=zdT m.hau m.hrd m.hba m.hbc bl m.hpa m.hpc pl _ (j.below d) (p.below d);rw[g,←b,←c] at f;rw[g];clear b c;go_in;go_wp2_with fail
 refine f.mono ?_;rintro _ q ⟨rfl,l⟩;dsimp only;go_wp2_with fail
 go_ret;exact ⟨rfl,zV l⟩
theorem zn3 (m:Msg)(bl pl:List zi)(vl:List Int)(w:World)(j:m.ki=4)(c:m.cbn=bl.length)(d:m.cpn=pl.length)(f:m.cvn=vl.length)(l:vl.length≤9000000000000000000)(o:zy w m.cba m.cbc bl)(r:zy w m.cpa m.cpc pl)(s:zav w m.cva vl) :
  Calls prog 56 #[.agg #[I_ m.fr,I_ m.tt,I_ m.ki,I_ m.bau,I_ m.bnu,.slice m.bta m.btn m.btc,I_ m.hau,I_ m.hrd,.slice m.hba m.hbn m.hbc,.slice m.hpa m.hpn m.hpc,I_ m.sau,I_ m.srd,.slice m.sda m.sdn m.sdc,I_ m.cau,I_ m.crd,.slice m.cba m.cbn m.cbc,.slice m.cpa m.cpn m.cpc,.slice m.cva m.cvn m.cvc,I_ m.ro]] w fun e w'=>e=.returned (I_ (zai m.cau m.crd bl pl vl))∧B_ w w':=by
 have b:=zO w (.cells #[I_ m.fr,I_ m.tt,I_ m.ki,I_ m.bau,I_ m.bnu,.slice m.bta m.btn m.btc,I_ m.hau,I_ m.hrd,.slice m.hba m.hbn m.hbc,.slice m.hpa m.hpn m.hpc,I_ m.sau,I_ m.srd,.slice m.sda m.sdn m.sdc,I_ m.cau,I_ m.crd,.slice m.cba m.cbn m.cbc,.slice m.cpa m.cpn m.cpc,.slice m.cva m.cvn m.cvc,I_ m.ro] 71);have g:=zfK m.cau m.crd m.cba m.cbc bl m.cpa m.cpc pl m.cva m.cvc vl _ (o.below b) (r.below b) (s.below b) l;rw[j,←c,←d,←f] at g;rw[j];clear c d f;go_in;go_wp2_with fail
 refine g.mono ?_;rintro _ t ⟨rfl,p⟩;dsimp only;go_wp2_with fail
 go_ret;exact ⟨rfl,zV p⟩
theorem zpy (m:Msg)(w:World)(b:¬(1≤m.ki∧m.ki≤5)) :
  Calls prog 56 #[.agg #[I_ m.fr,I_ m.tt,I_ m.ki,I_ m.bau,I_ m.bnu,.slice m.bta m.btn m.btc,I_ m.hau,I_ m.hrd,.slice m.hba m.hbn m.hbc,.slice m.hpa m.hpn m.hpc,I_ m.sau,I_ m.srd,.slice m.sda m.sdn m.sdc,I_ m.cau,I_ m.crd,.slice m.cba m.cbn m.cbc,.slice m.cpa m.cpn m.cpc,.slice m.cva m.cvn m.cvc,I_ m.ro]] w fun e w'=>e=.returned (I_ 3)∧B_ w w':=by
 have c:¬m.ki=1:=by omega
 have d:¬m.ki=2:=by omega
 have f:¬m.ki=3:=by omega
 have g:¬m.ki=4:=by omega
 have j:¬m.ki=5:=by omega
 go_in;go_wp2_with fail
 go_ret;exact ⟨rfl,(bR_ _ _).alloc (nR_ _) _⟩
theorem zpz (m:Msg)(w:World)(c:m.ki=3) :
  Calls prog 56 #[.agg #[I_ m.fr,I_ m.tt,I_ m.ki,I_ m.bau,I_ m.bnu,.slice m.bta m.btn m.btc,I_ m.hau,I_ m.hrd,.slice m.hba m.hbn m.hbc,.slice m.hpa m.hpn m.hpc,I_ m.sau,I_ m.srd,.slice m.sda m.sdn m.sdc,I_ m.cau,I_ m.crd,.slice m.cba m.cbn m.cbc,.slice m.cpa m.cpn m.cpc,.slice m.cva m.cvn m.cvc,I_ m.ro]] w fun e w'=>e=.returned (I_ (za4 m.sau m.srd m.sdn))∧B_ w w':=by
 rw[c];go_in;go_wp2_with fail
 refine (zfF _ _ _ _ _ _).mono ?_;rintro e d ⟨rfl,b⟩;go_wp2_with fail
 go_ret;exact ⟨rfl,zV b⟩
def zi1 (ro:Int):Int:=if 1≤ro∧ro≤1048576 then 0 else 2
theorem zpA (m:Msg)(w:World)(c:m.ki=5) :
  Calls prog 56 #[.agg #[I_ m.fr,I_ m.tt,I_ m.ki,I_ m.bau,I_ m.bnu,.slice m.bta m.btn m.btc,I_ m.hau,I_ m.hrd,.slice m.hba m.hbn m.hbc,.slice m.hpa m.hpn m.hpc,I_ m.sau,I_ m.srd,.slice m.sda m.sdn m.sdc,I_ m.cau,I_ m.crd,.slice m.cba m.cbn m.cbc,.slice m.cpa m.cpn m.cpc,.slice m.cva m.cvn m.cvc,I_ m.ro]] w fun e w'=>e=.returned (I_ (zi1 m.ro))∧B_ w w':=by
 rw[c];by_cases hr:1≤m.ro∧m.ro≤1048576;have b:Hid (zi1 m.ro=0):=by show _=_;simp[zi1,hr]
 rotate_left
 have b:Hid (zi1 m.ro=2):=by show _=_;simp[zi1,hr]
 rotate_left
 all_goals
  go_in;go_wp2_with (go_at_call 78;first|(refine (zbo _ _ (by omega)).mono ?_;rintro e w' ⟨rfl,rfl⟩)|(refine (za8 _ _ (by omega)).mono ?_;rintro e w' ⟨rfl,rfl⟩))
  go_ret;exact ⟨zp b.out.symm,(bR_ _ _).alloc (nR_ _) _⟩
theorem ziB (m:Msg)(ss:List ByteArray)(bl pl cbl cpl:List zi)(vl:List Int)(w:World)(H:zed w m ss bl pl cbl cpl vl) :
  Calls prog 31 #[.agg (mrow_ m)] w fun e w'=>e=.returned (I_ (zL m (zB m ss bl pl cbl cpl vl)))∧B_ w w':=by
 refine zsL m (zB m ss bl pl cbl cpl vl) w (fun h=>?_) (fun c f=>?_)
 ·rcases Decidable.em (1≤m.ki∧m.ki≤5) with g|g
  ·exact g
  ·rw[zB,if_neg (by omega),if_neg (by omega),if_neg (by omega),if_neg (by omega),if_neg (by omega)] at h;cases h
 ·have b:=H.below f;by_cases k1:m.ki=1
  ·rw[zB,if_pos k1];exact zmS m ss c k1 H.e1 (by have:=H.s1;have:=H.e1;unfold maxLen;omega) b.txs
  by_cases k2:m.ki=2
  ·rw[zB,if_neg k1,if_pos k2];exact zn2 m bl pl c k2 H.e2 H.e3 b.bat b.par
  by_cases k3:m.ki=3
  ·rw[zB,if_neg k1,if_neg k2,if_pos k3];exact zpz m c k3
  by_cases k4:m.ki=4
  ·rw[zB,if_neg k1,if_neg k2,if_neg k3,if_pos k4];exact zn3 m cbl cpl vl c k4 H.e4 H.e5 H.e6 H.s6 b.cbat b.cpar b.vot
  by_cases k5:m.ki=5
  ·rw[zB,if_neg k1,if_neg k2,if_neg k3,if_neg k4,if_pos k5];have d:=zpA m c k5;rw[zi1] at d;exact d
  ·rw[zB,if_neg k1,if_neg k2,if_neg k3,if_neg k4,if_neg k5];exact zpy m c (by omega)
def zcq (m:Msg)(e:Int):Int:=if e≠0 then e else if m.fr≠0∨m.tt≠0∨m.ki=5 then 4 else 0
theorem zfL (m:Msg)(ss:List ByteArray)(bl pl cbl cpl:List zi)(vl:List Int)(w:World)(H:zed w m ss bl pl cbl cpl vl) :
  Calls prog 175 #[.agg (mrow_ m)] w fun e w'=>e=.returned (I_ (zcq m (zL m (zB m ss bl pl cbl cpl vl))))∧B_ w w':=by
 have f:=zO w (.cells (mrow_ m) 71);have j:=hN_ w (.cells (mrow_ m) 71);have g:=ziB m ss bl pl cbl cpl vl _ (H.below f);generalize zL m (zB m ss bl pl cbl cpl vl)=R at g ⊢;clear H;have c:Hid (zcq m R=if R≠0 then R else if m.fr≠0∨m.tt≠0∨m.ki=5 then 4 else 0):=by show _=_;rfl
 generalize zcq m R=X at c ⊢;go_in;go_wp2_with (refine wpList_load_row rfl 71 _ rfl w.heap.size rfl 71 (mrow_ m) (0,0) _ j underlying71 rfl zch ?_)
 generalize w.alloc (.cells (mrow_ m) 71)=t at f j g ⊢;refine g.mono ?_;rintro _ u ⟨rfl,o⟩;dsimp only;have l:=zn o j;have p:=zb l 0 (I_ m.fr) rfl;have q:=zb l 1 (I_ m.tt) rfl;have r:=zb l 2 (I_ m.ki) rfl;have d:=zq f o;clear j l f o g;generalize m.fr=a at p c ⊢;generalize m.tt=b at q c ⊢;generalize m.ki=k at r c ⊢;by_cases hR:R=0
 ·subst hR;by_cases h0:a=0
  ·by_cases h1:b=0
   ·by_cases h2:k=5
    ·go_wp2_with fail
     go_ret;exact ⟨zp (by rw[c.out];simp[h2]),d⟩
    ·go_wp2_with fail
     go_ret;exact ⟨zp (by rw[c.out];simp[h0,h1,h2]),d⟩
   ·go_wp2_with fail
    go_ret;exact ⟨zp (by rw[c.out];simp[h1]),d⟩
  ·go_wp2_with fail
   go_ret;exact ⟨zp (by rw[c.out];simp[h0]),d⟩
 ·go_wp2_with fail
  go_ret;exact ⟨zp (by rw[c.out];simp[hR]),d⟩
theorem zaK.rec0 {x:MV}(h:zaK x):zcq x.m (zL x.m x.car)=0:=by rw[h.check,zcq];simp[h.fr,h.tt,h.ki]
theorem zpB (m:Msg)(c:Int)(w:World)(l:c≠0)
  (g:∀ b,B_ w b→Calls prog 31 #[.agg #[I_ m.fr,I_ m.tt,I_ m.ki,I_ m.bau,I_ m.bnu,.slice m.bta m.btn m.btc,I_ m.hau,I_ m.hrd,.slice m.hba m.hbn m.hbc,.slice m.hpa m.hpn m.hpc,I_ m.sau,I_ m.srd,.slice m.sda m.sdn m.sdc,I_ m.cau,I_ m.crd,.slice m.cba m.cbn m.cbc,.slice m.cpa m.cpn m.cpc,.slice m.cva m.cvn m.cvc,I_ m.ro]] b fun e w'=>e=.returned (I_ c)∧B_ b w') :
  Calls prog 22 #[.agg #[I_ m.fr,I_ m.tt,I_ m.ki,I_ m.bau,I_ m.bnu,.slice m.bta m.btn m.btc,I_ m.hau,I_ m.hrd,.slice m.hba m.hbn m.hbc,.slice m.hpa m.hpn m.hpc,I_ m.sau,I_ m.srd,.slice m.sda m.sdn m.sdc,I_ m.cau,I_ m.crd,.slice m.cba m.cbn m.cbc,.slice m.cpa m.cpn m.cpc,.slice m.cva m.cvn m.cvc,I_ m.ro]] w fun e w'=>e=.returned (.tuple #[O_,I_ c])∧B_ w w':=by
 refine kA_ ?A0 ?_;exact #[I_ m.fr,I_ m.tt,I_ m.ki,I_ m.bau,I_ m.bnu,.slice m.bta m.btn m.btc,I_ m.hau,I_ m.hrd,.slice m.hba m.hbn m.hbc,.slice m.hpa m.hpn m.hpc,I_ m.sau,I_ m.srd,.slice m.sda m.sdn m.sdc,I_ m.cau,I_ m.crd,.slice m.cba m.cbn m.cbc,.slice m.cpa m.cpn m.cpc,.slice m.cva m.cvn m.cvc,I_ m.ro];have j:=hN_ w (.cells ?A0 71);have d:=zO w (.cells ?A0 71);go_in;go_wp2_with (refine wpList_load_row rfl 71 _ rfl w.heap.size rfl 71 ?A0 (0,0) _ j underlying71 rfl zch ?_)
 refine (g _ d).mono ?_;rintro e b ⟨rfl,f⟩;go_wp2_with fail
 go_ret2;exact ⟨rfl,zV f⟩
end Go.Proofs.YtdepbohhmfkjgaaGreatDoor
