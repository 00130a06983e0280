import Derived.Test.YtdnaljbnebnlhaaGreatDoorPk11
set_option maxRecDepth 100000
set_option maxHeartbeats 4000000
namespace Go.Proofs.YtdnaljbnebnlhaaGreatDoor
open Go.RowKit Tryz
variable {w w':World}
structure BW where
 (au nu:Int) (ss:List ByteArray)
def BW.d (b:BW):List Int:=zhV 1 (zbY b.au b.nu b.ss)
def BW.f (b:BW):Int:=zbk b.au b.nu b.ss
structure Bc where
 v:BW
 ta:Option Addr
 tc:Nat
def Bc.cs (b:Bc):List Value:=[I_ b.v.au,I_ b.v.nu,.slice b.ta b.v.ss.length b.tc]
structure zcN (w:World)(b:Bc):Prop where
 strs:zas w b.ta b.v.ss
 le:b.v.ss.length<=b.tc
 max:b.tc<=maxLen
 nil:b.ta=none->b.tc=0
 lt:∀sb so,b.ta=some ⟨sb,so,none⟩->sb<w.heap.size
theorem zcN.below {b:Bc}(h:zcN w b)(c:B_ w w'):zcN w' b:=⟨h.strs.below c,h.le,h.max,h.nil,λd f e=>nL_ (h.lt d f e) c.size⟩
def zb1 (l:List BW)(d:List Int):Bool:=l.any λb=>decide (zai b.d=zai d)
def bOf (l:List BW)(d:List Int):Option BW:=l.find? λb=>decide (zai b.d=zai d)
theorem zk5 {l:List BW}{d:List Int}:bOf l d=none↔zb1 l d=false:=by
 unfold bOf zb1;rw[List.find?_eq_none,List.any_eq_false]
theorem zvA {l:List BW}{d:List Int}:(bOf l d).isSome=zb1 l d:=by
 cases h:bOf l d with
 | none=>rw[zk5.1 h];rfl
 | some b=>
  cases h2:zb1 l d with
  | false=>rw[zk5.2 h2]at h;cases h
  | true=>rfl
theorem zk6 (au rd:Int)(bl pl:List zi)(g:bl.length<=4)(j:pl.length<=4)(b:∀p∈bl,p.bs.length=32)(c:∀p∈pl,p.bs.length=32):(zaZ au rd bl pl).length<=300:=by
 have d:=zdY bl b;have f:=zdY pl c;simp[zaZ,rd3,zbh];omega
def zeE (au rd:Int)(bl pl:List zi)(vl:List Int):List Int:=zaZ au rd bl pl++[(vl.length:Int)]++vl
theorem zoA (base:Nat)(v:Value)(k:Nat)(bs:List Int)(au rd:Int)(l:Option Addr)(s r:Nat)(bl:List zi)(q:Option Addr)(y u:Nat)(pl:List zi)(d:Option Addr)(vn z:Nat)(vl:List Int)(w:World)(ha:0<=au/\au<4)(hr:0<=rd/\rd<=1048576)(Y:s=bl.length)(af:y=pl.length)(aB:vn=vl.length)(X:bl.length<=4)(ae:pl.length<=4)(aF:vl.length<=4)(V:∀p∈bl,p.bs.length=32)(ad:∀p∈pl,p.bs.length=32)(aA:∀x∈vl,0<=x/\x<4)
  (am:zx w l r bl) (ao:zfo w v l bl) (an:zx w q u pl) (ap:zfo w v q pl) (hI:zax w d vl) (aw:∀c f,d=some ⟨c,f,none⟩->c<w.heap.size/\v.ownBlock≠some c)
  (o:w.ownsRow base 5 1 v k (ub bs)) (E:base<=w.heap.size) (hk:k<=80000) :
  Calls prog 38 #[v,.agg #[I_ au,I_ rd,.slice l s r,.slice q y u,.slice d vn z]] w λe w'=>∃I,e=.returned I/\w'.ownsRow base 5 1 I (k+(zeE au rd bl pl vl).length) (ub (bs++zeE au rd bl pl vl))/\zV w v w' I:=by
 subst aB;obtain⟨i,hi,ai,aj,ak⟩:=info_parts zek;have ah:v.ownBlock≠some w.heap.size:=λe=>by have:=(o.lt _ e).2;omega
 refine kO_ ?A0 ?_;exact Obj.cells #[I_ au,I_ rd,.slice l s r,.slice q y u,.slice d vl.length z] 64;have N:=zC w ?A0;have R:=zf8 base v k bs au rd l s r bl q y u pl _ ha hr Y af X ae V ad (am.below N) (ao.alloc ?A0) (an.below N) (ap.alloc _) (oA_ o _) (zB E _) hk;have aE:=zk6 au rd bl pl X ae V ad;clear Y af;go_in;go_wp2_with fail
 refine R.mono ?_;rintro e w1⟨v1,rfl,ax,A⟩;have F:=A.row (hN_ w _) ah;have c4:=zb F 4 (.slice d vl.length z) rfl;have az:v1.ownBlock≠some w.heap.size:=λe=>by
  rcases A.fresh _ e with g|g
  .exact ah g
  .rw[zG]at g;omega
 have J:=A.alloc;clear R A;have O:zeE au rd bl pl vl=zaZ au rd bl pl++[(vl.length:Int)]++vl:=rfl;generalize zaZ au rd bl pl=b at*;have HC:Hid (zeE au rd bl pl vl=b++[(vl.length:Int)]++vl):=O;clear O;go_wp2_with (at_builtin;refine wpList_append_own_at _ rfl _ _ 51 rfl base 5 i (.int .u8 0) 1 1 underlying51 hi ai aj ak rfl (by decide) _ (k+b.length) _ rfl (oA_ ax _) ⟨w1.heap.size,0,none⟩ 1 1 [.int .u8 (vl.length:Int)] rfl rfl (zag _ _ _) (zds [_]) (by unfold maxLen;omega) (by omega) (zB (nT_ E J.grown.size) _) ?_;intro v2 w2 ab aa _ U;have M:=(zV.of aa U).alloc;have r2:=M.row F az;have d4:w2.cell? ⟨w.heap.size,4,none⟩=some (.slice d vl.length z):=zb r2 4 _ rfl)
 have ac:w2.ownsRow base 5 1 v2 (k+b.length+1) (ub (bs++b++[(vl.length:Int)])):=by simpa[ub]using ab
 have L:=J.trans M;clear ab aa U c4 F;go_loopw [21,0] (λj t wr=>∃(m:Nat) (C:Value),m<=vl.length/\j=I_ m/\C=t/\wr.ownsRow base 5 1 C (k+b.length+1+m) (ub (bs++b++[(vl.length:Int)]++vl.take m))/\zV w v wr C) (λj _ _=>vl.length-(intOf j).toNat)
 case atStart=>exact⟨0,_,nZ_ _,rfl,rfl,by simpa using ac,L⟩
 case round=>
  clear ac L r2 d4;obtain⟨m,C,hm,rfl,rfl,o,G⟩:=hrel;by_cases hlt:m<vl.length
  .obtain⟨c,f,rfl,Z⟩:∃c f,d=some ⟨c,f,none⟩/\∀j,j<vl.length->w.cell? ⟨c,f+j,none⟩=some (I_ (vl.getD j 0)):=by
    rcases hI.cells with h|h
    .rw[h]at hlt;simp at hlt
    .exact h
   have D:=Z m hlt;have ck:wr.cell? ⟨c,f+m,none⟩=some (I_ (vl.getD m 0)):=(cB_ (G.grown.block c (bL_ D) (λe=>(aw c f rfl).2 e.symm))).trans D;obtain⟨aC,aD⟩:=aA (vl.getD m 0) (by simp[List.getD,hlt]);have ag:Hid (vl.take (m+1)=vl.take m++[vl.getD m 0]):=by
    show _=_;rw[tS_ hlt];simp only[List.getD,List.getElem?_eq_getElem hlt,Option.getD_some]
   have av:(m:Int)<vl.length:=by omega
   clear Z D;generalize vl.getD m 0=x at ck ag aC aD;have al:base<=wr.heap.size:=nT_ E G.grown.size;go_wp2_with (at_builtin;refine wpList_append_own_at _ rfl _ _ 51 rfl base 5 i (.int .u8 0) 1 1 underlying51 hi ai aj ak rfl (by decide) _ (k+b.length+1+m) _ rfl (oA_ o _) ⟨wr.heap.size,0,none⟩ 1 1 [.int .u8 x] rfl rfl (zag _ _ _) (zds [_]) (by unfold maxLen;omega) (by omega) (zB al _) ?_;intro v5 w5 ay ar _ aq)
   go_roundw
   case rel=>
    have T:∃(B:Nat) (H:Value),B<=vl.length/\(Value.int .i64 ((m:Int)+1))=I_ B/\H=v5/\w5.ownsRow base 5 1 H (k+b.length+1+B) (ub (bs++b++[(vl.length:Int)]++vl.take B))/\zV w v w5 H:=
     ⟨m+1,v5,by omega,by go_num,rfl,by rw[ag.out,<-List.append_assoc];exact zsZ ay,G.trans (zV.of ar aq).alloc⟩
    first|exact T|((repeat apply Exists.intro);exact⟨T,rfl⟩)
   case measure=>simp[intOf];omega
  .obtain rfl:m=vl.length:=by omega
   rw[tL_ (nR_ _)]at o;have av:¬(vl.length:Int)<vl.length:=by omega
   go_wp2_with fail
   go_ret;refine⟨_,rfl,?_,G⟩;rw[HC.out,show k+(b++[(vl.length:Int)]++vl).length=k+b.length+1+vl.length by simp;omega,show bs++(b++[(vl.length:Int)]++vl)=bs++b++[(vl.length:Int)]++vl by simp];exact o
variable {n:Nat}{ss:List ByteArray}{rd au:Int}{vl:List Int}{bl pl cbl cpl:List zi}
def zcG (m:Msg)(ss:List ByteArray)(bl pl cbl cpl:List zi)(ds vl:List Int):List Int:=if m.ki=1 then zbY m.bau m.bnu ss else if m.ki=2 then zaZ m.hau m.hrd bl pl else if m.ki=3 then [m.sau]++rd3 m.srd++ds else if m.ki=4 then zeE m.cau m.crd cbl cpl vl else rd3 m.ro
def zeL (m:Msg)(ss:List ByteArray)(bl pl cbl cpl:List zi)(ds vl:List Int):List Int:=[m.ki,m.fr,m.tt]++zcG m ss bl pl cbl cpl ds vl
theorem zcB {m:Msg}{e:Int}(h:zP m e=0):(0<=m.fr/\m.fr<4)/\(0<=m.tt/\m.tt<4)/\e=0/\zaq (zab m)=true:=by
 unfold zP at h
 split at h
 .cases h
 .rename_i d
  split at h
  .rename_i b;exact absurd h b
  .rename_i b
   split at h
   .rename_i c
    exact⟨by omega,by omega,by simpa using b,c⟩
   .cases h
theorem zh0 {m:Msg}{e:Int}(d:0<=m.fr/\m.fr<4)(f:0<=m.tt/\m.tt<4)(b:e=0)(c:zaq (zab m)=true):zP m e=0:=by
 rw[zP,if_neg (by omega),if_neg (by simp[b]),if_pos c]
theorem zc7 {m:Msg}(h:zD m ss bl pl cbl cpl vl=0):m.ki=1\/m.ki=2\/m.ki=3\/m.ki=4\/m.ki=5:=by
 unfold zD at h
 repeat' split at h
 all_goals first|(cases h;done)|omega
theorem zho (h:zbf au rd n=0):(0<=au/\au<4)/\(1<=rd/\rd<=1048576)/\n=32:=by
 unfold zbf at h
 split at h
 .cases h
 .split at h
  .cases h
  .exact⟨by omega,by omega,by omega⟩
theorem zvB (vl:List Int)(k:Nat)(h:vTo vl k=0):∀j,j<k->vAt vl j=0:=by
 induction k with
 | zero=>intro j c;omega
 | succ k ih=>
  rw[vTo]at h
  split at h
  .rename_i b;exact absurd h b
  .rename_i b
   intro j c;rcases Nat.lt_or_ge j k with g|g
   .exact ih (by simpa using b) j g
   .obtain rfl:j=k:=by omega
    exact h
theorem ziN (h:zap au rd bl pl vl=0):zO au rd bl pl=0/\vl.length<=4/\3<=vl.length/\∀x∈vl,0<=x/\x<4:=by
 unfold zap at h
 split at h
 .rename_i b;exact absurd h b
 .rename_i b
  split at h
  .cases h
  .rename_i o
   unfold zep at h
   split at h
   .rename_i c;exact absurd h c
   .rename_i c
    split at h
    .cases h
    .refine⟨by simpa using b,by omega,by omega,λx m=>?_⟩;obtain⟨j,f,rfl⟩:=List.getElem_of_mem m;have d:=zvB vl vl.length (by simpa using c) j f;rw[vAt]at d
     split at d
     .cases d
     .rename_i g
      have l:vl.getD j 0=vl[j]:=by simp[List.getD,f]
      rw[l]at g;omega
theorem zig {m:Msg}(h:m.ki=1)(ss:List ByteArray)(bl pl cbl cpl:List zi)(ds vl:List Int):zcG m ss bl pl cbl cpl ds vl=zbY m.bau m.bnu ss:=by simp[zcG,h]
theorem zih {m:Msg}(h:m.ki=2)(ss:List ByteArray)(bl pl cbl cpl:List zi)(ds vl:List Int):zcG m ss bl pl cbl cpl ds vl=zaZ m.hau m.hrd bl pl:=by simp[zcG,h]
theorem zii {m:Msg}(h:m.ki=3)(ss:List ByteArray)(bl pl cbl cpl:List zi)(ds vl:List Int):zcG m ss bl pl cbl cpl ds vl=[m.sau]++rd3 m.srd++ds:=by simp[zcG,h]
theorem zij {m:Msg}(h:m.ki=4)(ss:List ByteArray)(bl pl cbl cpl:List zi)(ds vl:List Int):zcG m ss bl pl cbl cpl ds vl=zeE m.cau m.crd cbl cpl vl:=by simp[zcG,h]
theorem zik {m:Msg}(h:m.ki=5)(ss:List ByteArray)(bl pl cbl cpl:List zi)(ds vl:List Int):zcG m ss bl pl cbl cpl ds vl=rd3 m.ro:=by simp[zcG,h]
theorem ziO {m:Msg}(h:m.ki=1)(ss:List ByteArray)(bl pl cbl cpl:List zi)(vl:List Int):zD m ss bl pl cbl cpl vl=zbk m.bau m.bnu ss:=by simp[zD,h]
theorem ziP {m:Msg}(h:m.ki=2)(ss:List ByteArray)(bl pl cbl cpl:List zi)(vl:List Int):zD m ss bl pl cbl cpl vl=zO m.hau m.hrd bl pl:=by simp[zD,h]
theorem ziQ {m:Msg}(h:m.ki=3)(ss:List ByteArray)(bl pl cbl cpl:List zi)(vl:List Int):zD m ss bl pl cbl cpl vl=zbf m.sau m.srd m.sdn:=by simp[zD,h]
theorem ziR {m:Msg}(h:m.ki=4)(ss:List ByteArray)(bl pl cbl cpl:List zi)(vl:List Int):zD m ss bl pl cbl cpl vl=zap m.cau m.crd cbl cpl vl:=by simp[zD,h]
theorem zoB {m:Msg}(h:m.ki=5)(ss:List ByteArray)(bl pl cbl cpl:List zi)(vl:List Int):zD m ss bl pl cbl cpl vl=if 1<=m.ro/\m.ro<=1048576 then 0 else 2:=by simp[zD,h]
theorem zk7 {m:Msg}{ds:List Int}(o:m.sdn=ds.length)(h:zD m ss bl pl cbl cpl vl=0):(zcG m ss bl pl cbl cpl ds vl).length<=320:=by
 rcases zc7 h with k|k|k|k|k
 .rw[ziO k]at h;obtain⟨_,_,c,b⟩:=zjR h;have:=zmm ss (λs j=>(b s j).2);rw[zig k];simp[zbY,rd3];omega
 .rw[ziP k]at h;obtain⟨_,_,c,b,d,f⟩:=zbi h;have:=zk6 m.hau m.hrd bl pl (by omega) b d f;rw[zih k];omega
 .rw[ziQ k]at h;obtain⟨_,_,c⟩:=zho h;rw[zii k];simp[rd3];omega
 .rw[ziR k]at h;obtain⟨g,l,_,_⟩:=ziN h;obtain⟨_,_,c,b,d,f⟩:=zbi g;have:=zk6 m.cau m.crd cbl cpl (by omega) b d f;rw[zij k];simp[zeE];omega
 .rw[zik k];simp[rd3]
def MV.bytes (x:MV):List Int:=zeL x.m x.ss x.bl x.pl x.cbl x.cpl x.ds x.vl
theorem zaT.check {x:MV}(h:zaT x):zP x.m x.car=0:=zh0 (by rw[h.fr];omega) (by rw[h.tt];omega) h.car h.emp
theorem zil (au c:Int)(y:Option Addr)(n t:Nat)(ss:List ByteArray)(w:World)(H:n=ss.length)(G:n<=maxLen)(u:zas w y ss) :
  Calls prog 77 #[.agg #[I_ au,I_ c,.slice y n t]] w λe w'=>e=.returned (I_ (zbk au c ss))/\B_ w w':=by
 subst H;unfold maxLen at G;by_cases ha:0<=au/\au<4
 .by_cases hr:1<=c/\c<=1048576
  .by_cases hl:ss.length<1\/4<ss.length
   .have b:Hid (zbk au c ss=1):=by show _=_;rw[zbk,if_neg (by simp[ha,hr]),if_pos hl]
    have M:¬(1<=(ss.length:Int)/\(ss.length:Int)<=4):=by omega
    rcases hl with hl|hl;have D:ss.length=0:=by omega
    rw[D]
    rotate_left
    have E:(4:Int)<ss.length:=by omega
    have F:¬(ss.length:Int)<1:=by omega
    rotate_left
    all_goals
     go_in;go_wp2_with (first|(go_at_call 49;first|(refine(zaS _ _ (by omega)).mono ?_;rintro e w'⟨rfl,rfl⟩)|(refine(zaD _ _ (by omega)).mono ?_;rintro e w'⟨rfl,rfl⟩))|(go_at_call 80;first|(refine(zbB _ _ (by omega)).mono ?_;rintro e w'⟨rfl,rfl⟩)|(refine(zbj _ _ (by omega)).mono ?_;rintro e w'⟨rfl,rfl⟩)))
     go_ret;exact⟨zt b.out.symm,(bR_ _ _).alloc (nR_ _) _⟩
   .have b:Hid (zbk au c ss=if ss.all zbM then 0 else 1):=by show _=_;rw[zbk,if_neg (by simp[ha,hr]),if_neg hl]
    have E:¬(4:Int)<ss.length:=by omega
    have F:¬(ss.length:Int)<1:=by omega
    go_in;go_wp2_with (first|(go_at_call 49;first|(refine(zaS _ _ (by omega)).mono ?_;rintro e w'⟨rfl,rfl⟩)|(refine(zaD _ _ (by omega)).mono ?_;rintro e w'⟨rfl,rfl⟩))|(go_at_call 80;first|(refine(zbB _ _ (by omega)).mono ?_;rintro e w'⟨rfl,rfl⟩)|(refine(zbj _ _ (by omega)).mono ?_;rintro e w'⟨rfl,rfl⟩)))
    go_loop [28] (λi=>∃k:Nat,k<=ss.length/\i=I_ k/\∀q,q<k->zbM (ss.getD q ByteArray.empty)=true) (λi=>ss.length-(intOf i).toNat)
    case atStart=>exact⟨0,nZ_ _,rfl,λq I=>by omega⟩
    case round=>
     obtain⟨k,L,rfl,r⟩:=hrel;by_cases hlt:k<ss.length
     .rcases u.cells with l|⟨z,A,rfl,l⟩
      .subst l;simp at hlt
      have N:(k:Int)<ss.length:=by omega
      have o:=l k hlt;have J:=(((bR_ w.heap.size w).alloc (nR_ _) (.cells #[I_ au,I_ c,.slice (some ⟨z,A,none⟩) ss.length t] 58)).cell (p:=⟨z,A+k,none⟩) (bL_ o)).trans o;have O:(ss.getD k ByteArray.empty).size<=9223372036854775807:=u.size _ (by simp[List.getD,hlt]);have f:zbM (ss.getD k ByteArray.empty)=decide (1<=(ss.getD k ByteArray.empty).size/\(ss.getD k ByteArray.empty).size<=20):=rfl;have m:Hid (zbM (ss.getD k ByteArray.empty)=true->∀q,q<k+1->zbM (ss.getD q ByteArray.empty)=true):=by
       show _->_;intro h q I;rcases Nat.lt_or_ge q k with g|g
       .exact r q g
       .obtain rfl:q=k:=by omega
        exact h
      have j:Hid (zbM (ss.getD k ByteArray.empty)=false->ss.all zbM=false):=by
       show _->_;exact zs9 ss zbM ByteArray.empty k hlt
      clear r l o;generalize ss.getD k ByteArray.empty=s at*;by_cases h1:1<=s.size
      .have B:¬(s.size:Int)<1:=by omega
       by_cases h2:s.size<=20
       .have C:¬(20:Int)<s.size:=by omega
        have d:=m.out (by rw[f];simp[h1,h2]);clear f m j;go_wp2_with fail
        go_round
        case rel=>exact⟨k+1,by omega,by go_num,d⟩
        case measure=>simp[intOf];omega
       .have C:(20:Int)<s.size:=by omega
        have d:=j.out (by rw[f];simp[h2]);clear f m j;rw[d]at b;go_wp2_with fail
        go_ret;exact⟨zt (by rw[b.out];rfl),(bR_ _ _).alloc (nR_ _) _⟩
      .have B:(s.size:Int)<1:=by omega
       have d:=j.out (by rw[f];simp[h1]);clear f m j;rw[d]at b;go_wp2_with fail
       go_ret;exact⟨zt (by rw[b.out];rfl),(bR_ _ _).alloc (nR_ _) _⟩
     .obtain rfl:k=ss.length:=by omega
      have d:=zvc ss zbM ByteArray.empty r;rw[d]at b;go_wp2_with fail
      go_ret;exact⟨zt (by rw[b.out];rfl),(bR_ _ _).alloc (nR_ _) _⟩
  .have b:Hid (zbk au c ss=2):=by show _=_;simp[zbk,hr]
   go_in;go_wp2_with (first|(go_at_call 49;first|(refine(zaS _ _ (by omega)).mono ?_;rintro e w'⟨rfl,rfl⟩)|(refine(zaD _ _ (by omega)).mono ?_;rintro e w'⟨rfl,rfl⟩))|(go_at_call 80;first|(refine(zbB _ _ (by omega)).mono ?_;rintro e w'⟨rfl,rfl⟩)|(refine(zbj _ _ (by omega)).mono ?_;rintro e w'⟨rfl,rfl⟩)))
   go_ret;exact⟨zt b.out.symm,(bR_ _ _).alloc (nR_ _) _⟩
 .have b:Hid (zbk au c ss=2):=by show _=_;simp[zbk,ha]
  go_in;go_wp2_with (first|(go_at_call 49;first|(refine(zaS _ _ (by omega)).mono ?_;rintro e w'⟨rfl,rfl⟩)|(refine(zaD _ _ (by omega)).mono ?_;rintro e w'⟨rfl,rfl⟩))|(go_at_call 80;first|(refine(zbB _ _ (by omega)).mono ?_;rintro e w'⟨rfl,rfl⟩)|(refine(zbj _ _ (by omega)).mono ?_;rintro e w'⟨rfl,rfl⟩)))
  go_ret;exact⟨zt b.out.symm,(bR_ _ _).alloc (nR_ _) _⟩
theorem zoC (m:Msg)(ss:List ByteArray)(w:World)(l:m.ki=1)(d:m.btn=ss.length)(c:m.btn<=maxLen)(o:zas w m.bta ss) :
  Calls prog 50 #[.agg #[I_ m.fr,I_ m.tt,I_ m.ki,I_ m.bau,I_ m.bnu,.slice m.bta m.btn m.btc,I_ m.hau,I_ m.hrd,.slice m.hba m.hbn m.hbc,.slice m.hpa m.hpn m.hpc,I_ m.sau,I_ m.srd,.slice m.sda m.sdn m.sdc,I_ m.cau,I_ m.crd,.slice m.cba m.cbn m.cbc,.slice m.cpa m.cpn m.cpc,.slice m.cva m.cvn m.cvc,I_ m.ro]] w λe w'=>e=.returned (I_ (zbk m.bau m.bnu ss))/\B_ w w':=by
 have f:=zC w (.cells #[I_ m.fr,I_ m.tt,I_ m.ki,I_ m.bau,I_ m.bnu,.slice m.bta m.btn m.btc,I_ m.hau,I_ m.hrd,.slice m.hba m.hbn m.hbc,.slice m.hpa m.hpn m.hpc,I_ m.sau,I_ m.srd,.slice m.sda m.sdn m.sdc,I_ m.cau,I_ m.crd,.slice m.cba m.cbn m.cbc,.slice m.cpa m.cpn m.cpc,.slice m.cva m.cvn m.cvc,I_ m.ro] 66);have b:=zil m.bau m.bnu m.bta m.btn m.btc ss _ d c (o.below f);rw[l]at b|-;clear d c;go_in;go_wp2_with fail
 refine b.mono ?_;rintro _ p⟨rfl,g⟩;dsimp only;go_wp2_with fail
 go_ret;exact⟨rfl,zS g⟩
theorem zpZ (m:Msg)(bl pl:List zi)(w:World)(g:m.ki=2)(b:m.hbn=bl.length)(c:m.hpn=pl.length)(j:zx w m.hba m.hbc bl)(p:zx w m.hpa m.hpc pl) :
  Calls prog 50 #[.agg #[I_ m.fr,I_ m.tt,I_ m.ki,I_ m.bau,I_ m.bnu,.slice m.bta m.btn m.btc,I_ m.hau,I_ m.hrd,.slice m.hba m.hbn m.hbc,.slice m.hpa m.hpn m.hpc,I_ m.sau,I_ m.srd,.slice m.sda m.sdn m.sdc,I_ m.cau,I_ m.crd,.slice m.cba m.cbn m.cbc,.slice m.cpa m.cpn m.cpc,.slice m.cva m.cvn m.cvc,I_ m.ro]] w λe w'=>e=.returned (I_ (zO m.hau m.hrd bl pl))/\B_ w w':=by
 have d:=zC w (.cells #[I_ m.fr,I_ m.tt,I_ m.ki,I_ m.bau,I_ m.bnu,.slice m.bta m.btn m.btc,I_ m.hau,I_ m.hrd,.slice m.hba m.hbn m.hbc,.slice m.hpa m.hpn m.hpc,I_ m.sau,I_ m.srd,.slice m.sda m.sdn m.sdc,I_ m.cau,I_ m.crd,.slice m.cba m.cbn m.cbc,.slice m.cpa m.cpn m.cpc,.slice m.cva m.cvn m.cvc,I_ m.ro] 66);have f:=zeB m.hau m.hrd m.hba m.hbc bl m.hpa m.hpc pl _ (j.below d) (p.below d);rw[g,<-b,<-c]at f;rw[g];clear b c;go_in;go_wp2_with fail
 refine f.mono ?_;rintro _ q⟨rfl,l⟩;dsimp only;go_wp2_with fail
 go_ret;exact⟨rfl,zS l⟩
theorem zp0 (m:Msg)(bl pl:List zi)(vl:List Int)(w:World)(j:m.ki=4)(c:m.cbn=bl.length)(d:m.cpn=pl.length)(f:m.cvn=vl.length)(l:vl.length<=9000000000000000000)(o:zx w m.cba m.cbc bl)(r:zx w m.cpa m.cpc pl)(s:zax w m.cva vl) :
  Calls prog 50 #[.agg #[I_ m.fr,I_ m.tt,I_ m.ki,I_ m.bau,I_ m.bnu,.slice m.bta m.btn m.btc,I_ m.hau,I_ m.hrd,.slice m.hba m.hbn m.hbc,.slice m.hpa m.hpn m.hpc,I_ m.sau,I_ m.srd,.slice m.sda m.sdn m.sdc,I_ m.cau,I_ m.crd,.slice m.cba m.cbn m.cbc,.slice m.cpa m.cpn m.cpc,.slice m.cva m.cvn m.cvc,I_ m.ro]] w λe w'=>e=.returned (I_ (zap m.cau m.crd bl pl vl))/\B_ w w':=by
 have b:=zC w (.cells #[I_ m.fr,I_ m.tt,I_ m.ki,I_ m.bau,I_ m.bnu,.slice m.bta m.btn m.btc,I_ m.hau,I_ m.hrd,.slice m.hba m.hbn m.hbc,.slice m.hpa m.hpn m.hpc,I_ m.sau,I_ m.srd,.slice m.sda m.sdn m.sdc,I_ m.cau,I_ m.crd,.slice m.cba m.cbn m.cbc,.slice m.cpa m.cpn m.cpc,.slice m.cva m.cvn m.cvc,I_ m.ro] 66);have g:=zgG m.cau m.crd m.cba m.cbc bl m.cpa m.cpc pl m.cva m.cvc vl _ (o.below b) (r.below b) (s.below b) l;rw[j,<-c,<-d,<-f]at g;rw[j];clear c d f;go_in;go_wp2_with fail
 refine g.mono ?_;rintro _ t⟨rfl,p⟩;dsimp only;go_wp2_with fail
 go_ret;exact⟨rfl,zS p⟩
theorem zrD (m:Msg)(w:World)(b:¬(1<=m.ki/\m.ki<=5)) :
  Calls prog 50 #[.agg #[I_ m.fr,I_ m.tt,I_ m.ki,I_ m.bau,I_ m.bnu,.slice m.bta m.btn m.btc,I_ m.hau,I_ m.hrd,.slice m.hba m.hbn m.hbc,.slice m.hpa m.hpn m.hpc,I_ m.sau,I_ m.srd,.slice m.sda m.sdn m.sdc,I_ m.cau,I_ m.crd,.slice m.cba m.cbn m.cbc,.slice m.cpa m.cpn m.cpc,.slice m.cva m.cvn m.cvc,I_ m.ro]] w λe w'=>e=.returned (I_ 3)/\B_ w w':=by
 have c:¬m.ki=1:=by omega
 have d:¬m.ki=2:=by omega
 have f:¬m.ki=3:=by omega
 have g:¬m.ki=4:=by omega
 have j:¬m.ki=5:=by omega
 go_in;go_wp2_with fail
 go_ret;exact⟨rfl,(bR_ _ _).alloc (nR_ _) _⟩
theorem zrE (m:Msg)(w:World)(c:m.ki=3) :
  Calls prog 50 #[.agg #[I_ m.fr,I_ m.tt,I_ m.ki,I_ m.bau,I_ m.bnu,.slice m.bta m.btn m.btc,I_ m.hau,I_ m.hrd,.slice m.hba m.hbn m.hbc,.slice m.hpa m.hpn m.hpc,I_ m.sau,I_ m.srd,.slice m.sda m.sdn m.sdc,I_ m.cau,I_ m.crd,.slice m.cba m.cbn m.cbc,.slice m.cpa m.cpn m.cpc,.slice m.cva m.cvn m.cvc,I_ m.ro]] w λe w'=>e=.returned (I_ (zbf m.sau m.srd m.sdn))/\B_ w w':=by
 rw[c];go_in;go_wp2_with fail
 refine(zgC _ _ _ _ _ _).mono ?_;rintro e d⟨rfl,b⟩;go_wp2_with fail
 go_ret;exact⟨rfl,zS b⟩
end Go.Proofs.YtdnaljbnebnlhaaGreatDoor
