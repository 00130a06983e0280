import Derived.Test.YtdnaljbnebnlhaaGreatDoorPk9
set_option maxRecDepth 100000
set_option maxHeartbeats 4000000
namespace Go.Proofs.YtdnaljbnebnlhaaGreatDoor
open Go.RowKit Tryz
variable {k:Nat}
def zk2 (f:FuncId)(caps:Array Value)(P:Int->Bool)(vl:List Int)(w:World):Prop:=
 ∀x∈vl,∀W:World,B_ w W->Calls prog f (#[I_ x]++caps) W λe w'=>e=.returned (.bool (P x))/\B_ W w'
theorem zjN {α:Type}{l:List α}{x:α}(b:k<l.length):x∈l.take (k+1)↔x∈l.take k\/x=l[k]:=by
 rw[tS_ b,List.mem_append,List.mem_singleton]
theorem zmg (f:FuncId)(q:Array Value)(P:Int->Bool)(O:∀A w,(callFunc f A).run prog w=.ok (.enter f A) w)(vl:List Int)(z:Option Addr)(n I:Nat)(w:World)(c:n=vl.length)(R:vl.length<=9000000000000000000)(M:zax w z vl)(B:zk2 f q P vl w) :
  Calls prog 214 #[.slice z n I,.func (.func f) #[] q] w λe w'=>B_ w w'/\∃r:Int,e=.returned (I_ r)/\((vl.any P=true/\0<=r)\/(vl.any P=false/\r=-1)):=by
 subst c;have G:Hid (zk2 f q P vl w):=B;clear B;go_in;go_wp2_with fail
 go_loopw [8] (λi wr=>∃m:Nat,m<=vl.length/\i=I_ m/\(∀s∈vl.take m,P s=false)/\B_ w wr) (λi _=>vl.length-(intOf i).toNat)
 case atStart=>exact⟨0,nZ_ _,rfl,(λs b=>by simp at b),bR_ _ _⟩
 case round=>
  obtain⟨m,U,rfl,d,g⟩:=hrel;by_cases hlt:m<vl.length
  .have F:=M.below g;obtain⟨u,y,rfl,D⟩:∃u y,z=some ⟨u,y,none⟩/\∀j,j<vl.length->wr.cell? ⟨u,y+j,none⟩=some (I_ (vl.getD j 0)):=by
    rcases F.cells with h|h
    .rw[h]at hlt;simp at hlt
    .exact h
   have H:=D m hlt;have E:vl.getD m 0=vl[m]:=by simp[List.getD,hlt]
   rw[E]at H;have T:(m:Int)<vl.length:=by omega
   have p:Hid (P (vl[m])=true->vl.any P=true):=by
    show _->_;intro h;exact List.any_eq_true.2 ⟨_,gM_ hlt,h⟩
   have o:Hid (P (vl[m])=false->∀s∈vl.take (m+1),P s=false):=by
    show _->_;intro h s b;rw[zjN hlt]at b;rcases b with b|rfl
    .exact d s b
    .exact h
   have l:=G.out (vl[m]) (gM_ hlt) wr g;clear D d F E;generalize vl[m]=t at*;go_wp2_with fail
   refine l.mono ?_;rintro _ V⟨rfl,J⟩;dsimp only;have C:=zm g J;cases hP:P t with
   | true=>
    have N:Hid _:=p.out hP;clear p o hP l;go_wp2_with fail
    go_ret;exact⟨C,(m:Int),rfl,.inl ⟨N.out,by omega⟩⟩
   | false=>
    have c:Hid _:=o.out hP;clear p o hP l;go_wp2_with fail
    go_roundw
    case rel=>exact⟨m+1,by omega,by go_num,c.out,C⟩
    case measure=>simp[intOf];omega
  .obtain rfl:m=vl.length:=by omega
   have c:Hid (vl.any P=false):=by
    show _=_;rw[tL_ (nR_ _)]at d;rw[List.any_eq_false];intro s b;rw[d s b];simp
   clear d;go_wp2_with fail
   go_ret;exact⟨g,(-1:Int),rfl,.inr ⟨c.out,rfl⟩⟩
theorem zgN (f:FuncId)(d:Array Value)(P:Int->Bool)(t:∀j w,(callFunc f j).run prog w=.ok (.enter f j) w)(vl:List Int)(g:Option Addr)(n l:Nat)(w:World)(y:n=vl.length)(u:vl.length<=9000000000000000000)(z:zax w g vl)(m:zk2 f d P vl w) :
  Calls prog 186 #[.slice g n l,.func (.func f) #[] d] w λe w'=>e=.returned (.bool (vl.any P))/\B_ w w':=by
 subst y;have q:=zmg f d P t vl g _ l w rfl u z m;clear m;go_in;go_wp2_with fail
 refine q.mono ?_;rintro e A⟨o,r,s,p⟩;subst s;dsimp only;rcases p with⟨b,p⟩|⟨b,rfl⟩
 all_goals
  have c:Hid _:=b;clear b;go_wp2_with fail
  go_ret;exact⟨zN (by rw[c.out]),o⟩
def zdI (l:List GV)(bad au rd:Int)(dg:List Int)(nd:Int):Bool:=decide (nd≠bad)&&!decide ((nd,au,rd,dg)∈l)
def zfl (l:List GV)(bad au rd:Int)(cf:Int)(dg vl:List Int):Int:=if zcM l bad≠0 then zcM l bad else if cf≠0 then cf else if zdI l bad au rd dg au||vl.any (zdI l bad au rd dg)then 11 else 0
theorem zvu (s:List Int)(k:Nat):zaN (zdg s k):=by
 induction k with
 | zero=>intro x b;cases b
 | succ k ih=>
  intro x b;rw[zdg]at b;rcases List.mem_append.1 b with h|h
  .exact ih x h
  .simp at h
   omega
theorem zkk (au rd:Int)(bl pl:List zi):zaN (zaE au rd bl pl):=zvu _ _
theorem ztr (g:List Sg)(o:Option Addr)(q:Nat)(j au rd d:Int)(b c:Nat)(f:List Int)(L G S:Nat)(w:World)(u:g.length<=2932031007400)(z:zcz w o g)(A:zg w (some ⟨b,0,none⟩) c f)(r:f.length=32)(B:zaN f)
  (C:R_ w G #[I_ j] 3) (D:R_ w L #[.slice o g.length q] 25) (m:R_ w S #[I_ au,I_ rd,.slice (some ⟨b,0,none⟩) 32 c] 53) :
  Calls prog 229 #[I_ d,(P_ G 0),(P_ L 0),(P_ S 0)] w λe w'=>e=.returned (.bool (zdI (gvs g) j au rd f d))/\B_ w w':=by
 have E:=zb C 0 _ rfl;have F:=zb D 0 _ rfl;have H:=zb m 0 _ rfl;have I:=zb m 1 _ rfl;have J:=zb m 2 _ rfl;by_cases hn:d=j
 .have l:Hid (zdI (gvs g) j au rd f d=false):=by show _=_;simp[zdI,hn]
  have y:(d != j)=false:=by simpa using hn
  clear hn;go_in;go_wp2_with fail
  go_ret;exact⟨zN l.out.symm,bR_ _ _⟩
 .have l:Hid (zdI (gvs g) j au rd f d=!decide ((d,au,rd,f)∈gvs g)):=by show _=_;simp[zdI,hn]
  have y:(d != j)=true:=by simpa using hn
  have p:=zmf g o _ q ⟨d,au,rd,⟨some ⟨b,0,none⟩,c,f⟩⟩ w rfl u z ⟨A,B⟩;simp only[r,Sg.v]at p;clear hn r;go_in;go_wp2_with fail
  refine p.mono ?_;rintro _ M⟨rfl,s⟩;dsimp only;go_wp2_with fail
  go_ret;exact⟨zN (by rw[l.out];exact congrArg _ (decide_eq_decide.2 Iff.rfl)),s⟩
theorem zrz (c:List Sg)(H:Option Addr)(n J:Nat)(f au rd:Int)(B:Option Addr)(C:Nat)(bl:List zi)(F:Option Addr)(G:Nat)(pl:List zi)(I:Option Addr)(M:Nat)(vl:List Int)(w:World)(hn:n=c.length)(hl:c.length<=2932031007400)(m:zcz w H c)(h:HAt w B C bl F G pl)(p:zax w I vl)(am:vl.length<=9000000000000000000)(q:zbJ w) :
  Calls prog 199 #[.slice H n J,I_ f,.agg #[I_ au,I_ rd,.slice B bl.length C,.slice F pl.length G,.slice I vl.length M]] w λe w'=>e=.returned (I_ (zfl (gvs c) f au rd (zap au rd bl pl vl) (zaE au rd bl pl) vl))/\B_ w w':=by
 subst hn;have a1:=hN_ w (.cells #[.slice H c.length J] 25);have a2:=hN_ (w.alloc (.cells #[.slice H c.length J] 25)) (.cells #[I_ f] 3);refine kA_ ?A0 ?_;exact #[I_ au,I_ rd,.slice B bl.length C,.slice F pl.length G,.slice I vl.length M];refine kW_ ?B0 ?_;exact(w.alloc (.cells #[.slice H c.length J] 25)).alloc (.cells #[I_ f] 3);have a3:=hN_ ?B0 (.cells ?A0 64);rw[zG]at a2;rw[zG,zG]at a3;have z:=zR (o:=.cells ?A0 64) (zR (o:=.cells #[I_ f] 3) a1);have A:=zR (o:=.cells ?A0 64) a2;have j:=a3;clear a1 a2 a3;have N:B_ w ((?B0).alloc (.cells ?A0 64)):=(((bR_ _ _).alloc (nR_ _) _).alloc (by simp) _).alloc (by simp;omega) _;go_in;go_wp2_with fail
 generalize (?B0).alloc (.cells ?A0 64)=W0 at N z A j|-;have d:=N;replace m:=m.below N;replace h:=h.below N;replace p:=p.below N;replace q:=q.below N;clear N;have U:=zkF c H _ J f W0 rfl hl m;by_cases hs:zcM (gvs c) f=0;rw[hs]at U;have ak:Hid (zcM (gvs c) f=0):=hs;clear hs
 rotate_left
 have D:Hid (zfl (gvs c) f au rd (zap au rd bl pl vl) (zaE au rd bl pl) vl=zcM (gvs c) f):=by show _=_;rw[zfl,if_pos hs]
 generalize Y:zcM (gvs c) f=y at U hs;have ai:Hid (zcM (gvs c) f=y):=Y;clear Y;have hy:(y != 0)=true:=by simpa using hs
 rotate_left
 all_goals
  refine U.mono ?_;rintro _ w1⟨rfl,t⟩;dsimp only
 .clear U;replace z:=zk t z;replace A:=zk t A;replace j:=zk t j;replace m:=m.below t;replace h:=h.below t;replace p:=p.below t;replace q:=q.below t;replace d:=d.trans (t.mono d.size);have V:=zgG au rd B C bl F G pl I M vl w1 h.lb h.lp p am;by_cases hc:zap au rd bl pl vl=0;rw[hc]at V;have an:Hid (zap au rd bl pl vl=0):=hc;have al:zO au rd bl pl=0:=by
   unfold zap at hc
   split at hc
   .exact absurd hc (by assumption)
   .rename_i g;simpa using g
  have ao:Hid (zO au rd bl pl=0):=al;clear hc al
  rotate_left
  have D:Hid (zfl (gvs c) f au rd (zap au rd bl pl vl) (zaE au rd bl pl) vl=zap au rd bl pl vl):=by show _=_;rw[zfl,if_neg (by simpa using ak.out),if_pos hc]
  generalize Y:zap au rd bl pl vl=y at V hc;have ai:Hid (zap au rd bl pl vl=y):=Y;clear Y;have hy:(y != 0)=true:=by simpa using hc
  rotate_left
  all_goals
   have ab:=zb j 0 _ rfl;have ac:=zb j 1 _ rfl;have ad:=zb j 2 _ rfl;have ae:=zb j 3 _ rfl;have af:=zb j 4 _ rfl;go_wp2_with fail
   refine V.mono ?_;rintro _ w2⟨rfl,u⟩;dsimp only
  .clear V;clear ab ac ad ae af;replace z:=zk u z;replace A:=zk u A;replace j:=zk u j;replace m:=m.below u;replace h:=h.below u;replace p:=p.below u;replace q:=q.below u;replace d:=d.trans (u.mono d.size);have ab:=zb j 0 _ rfl;have ac:=zb j 1 _ rfl;have ad:=zb j 2 _ rfl;have ae:=zb j 3 _ rfl;have af:=zb j 4 _ rfl;go_wp2_with fail
   refine(zry au rd B C bl F G pl w2 h ao.out q).mono ?_;rintro e w3⟨b,l,aA,aB,aj,L⟩;subst l;dsimp only;clear ab ac ad ae af;replace z:=zk L z;replace A:=zk L A;replace j:=zk L j;replace m:=m.below L;replace h:=h.below L;replace p:=p.below L;replace q:=q.below L;replace d:=d.trans (L.mono d.size);refine kA_ ?C0 ?_;exact #[I_ au,I_ rd,.slice (some ⟨b,0,none⟩) 32 32];have s:=(bR_ w3.heap.size w3).alloc (nR_ _) (.cells ?C0 53);have q9:=hN_ w3 (.cells ?C0 53);have O:=zR (o:=.cells ?C0 53) j;have av:=zb O 0 _ rfl;have aw:=zb O 1 _ rfl;have ax:=zb O 2 _ rfl;have ay:=zb O 3 _ rfl;have az:=zb O 4 _ rfl;go_wp2_with fail
   clear av aw ax ay az O;generalize hG:w3.alloc (.cells ?C0 53)=w4 at s q9|-;clear hG;replace z:=zk s z;replace A:=zk s A;replace j:=zk s j;replace m:=m.below s;replace h:=h.below s;replace p:=p.below s;replace q:=q.below s;replace aj:=aj.below s;replace d:=d.trans (s.mono d.size);generalize ap:w3.heap.size=S9 at q9|-;clear ap;have HA:∀R,∀W,B_ w4 W->Calls prog 229 #[I_ R,(P_ (w.heap.size+1) 0),(P_ w.heap.size 0),(P_ S9 0)] W λe w'=>e=.returned (.bool (zdI (gvs c) f au rd (zaE au rd bl pl) R))/\B_ W w':=λR W E=>
    ztr c H J f au rd R b 32 (zaE au rd bl pl) w.heap.size (w.heap.size+1) S9 W hl (m.below E) (aj.below E) (zbD _ _ _ _) (zkk _ _ _ _) (zk E A) (zk E z) (zk E q9)
   have ah:=λW (E:B_ w4 W)=>zgN 229 #[P_ (w.heap.size+1) 0,(P_ w.heap.size 0),(P_ S9 0)] (zdI (gvs c) f au rd (zaE au rd bl pl)) (eO_ func229) vl I _ M W rfl am (p.below E) (λR _ W2 aq=>HA R W2 (E.trans (aq.mono E.size)));have T:=HA au w4 (bR_ _ _);have aa:Hid (zfl (gvs c) f au rd (zap au rd bl pl vl) (zaE au rd bl pl) vl=if zdI (gvs c) f au rd (zaE au rd bl pl) au||vl.any (zdI (gvs c) f au rd (zaE au rd bl pl))then 11 else 0):=by
    show _=_;rw[zfl,if_neg (by simpa using ak.out),if_neg (by simpa using an.out)]
   clear HA;cases hz:zdI (gvs c) f au rd (zaE au rd bl pl) au with
   | true=>
    rw[hz]at T;have D:Hid (zfl (gvs c) f au rd (zap au rd bl pl vl) (zaE au rd bl pl) vl=11):=by show _=_;rw[aa.out,hz];rfl
    clear hz aa ah;refine T.mono ?_;rintro _ w5⟨rfl,X⟩;dsimp only;go_wp2_with fail
    go_ret;exact⟨zt D.out.symm,d.trans (X.mono d.size)⟩
   | false=>
    rw[hz]at T;refine T.mono ?_;rintro _ w5⟨rfl,X⟩;dsimp only;have ag:=ah w5 X;have Z:=zk X j;have aC:=zb Z 0 _ rfl;have aD:=zb Z 1 _ rfl;have aE:=zb Z 2 _ rfl;have aF:=zb Z 3 _ rfl;have aG:=zb Z 4 _ rfl;have D:Hid (zfl (gvs c) f au rd (zap au rd bl pl vl) (zaE au rd bl pl) vl=if vl.any (zdI (gvs c) f au rd (zaE au rd bl pl))then 11 else 0):=by show _=_;rw[aa.out,hz];rfl
    clear hz aa ah T;generalize vl.any (zdI (gvs c) f au rd (zaE au rd bl pl))=r at ag D;replace d:=d.trans (X.mono d.size);go_wp2_with fail
    refine ag.mono ?_;rintro _ w6⟨rfl,ar⟩;dsimp only;replace d:=d.trans (ar.mono d.size);clear ag;cases r with
    | true=>
     go_wp2_with fail
     go_ret;exact⟨zt D.out.symm,d⟩
    | false=>
     go_wp2_with fail
     go_ret;exact⟨zt D.out.symm,d⟩
  .go_wp2_with fail
   go_ret;exact⟨zt (D.out.trans ai.out).symm,d.trans (u.mono d.size)⟩
 .go_wp2_with fail
  go_ret;exact⟨zt (D.out.trans ai.out).symm,d.trans (t.mono d.size)⟩
variable {w w':World}{n cap base q:Nat}{sa:Option Addr}{ss:List ByteArray}
def inS (s:ByteArray)(ss:List ByteArray):Bool:=ss.any λx=>decide (x=s)
theorem zon {s:ByteArray}(h:s∈ss):inS s ss=true:=by simp[inS,h]
theorem zm2 {s:ByteArray}(h:s ∉ ss):inS s ss=false:=by
 rw[inS,List.any_eq_false];intro x b;simp only[decide_eq_true_eq];exact λe=>h (e ▸ b)
def zen (ss:List ByteArray):Bool:=ss.all zbM&&decide ss.Nodup
def zaO (nx:Int)(ss:List ByteArray):Int:=if ¬(1<=nx/\nx<=1048577)\/40<ss.length then 12 else if zen ss=true then 0 else 12
theorem zdJ :zen ss=true↔(∀s∈ss,zbM s=true)/\ss.Nodup:=by simp[zen]
theorem zif (b:q<ss.length):ss.getD q ByteArray.empty=ss[q]:=by simp[List.getD,b]
theorem zkG {s:ByteArray}:s∈ss.take q↔∃i,∃h:i<ss.length,i<q/\ss[i]=s:=by
 rw[List.mem_iff_getElem]
 constructor
 .rintro⟨i,c,rfl⟩;have b:i<q/\i<ss.length:=by rw[lT9_]at c;omega
  exact⟨i,b.2,b.1,by simp⟩
 .rintro⟨i,h,d,rfl⟩;exact⟨i,by rw[lT9_];omega,by simp⟩
theorem zts (h:∀q,q<ss.length->zbM (ss.getD q ByteArray.empty)=true/\ss.getD q ByteArray.empty ∉ ss.take q):zen ss=true:=by
 refine zdJ.2 ⟨λs g=>?_,?_⟩
 .obtain⟨i,b,rfl⟩:=List.mem_iff_getElem.1 g;have:=(h i b).1
  rwa [zif b]at this
 .rw[List.Nodup,List.pairwise_iff_getElem];intro i j b c f d;refine(h j c).2 ?_;rw[zif c,zkG];exact⟨i,b,f,d⟩
theorem zoo (b:q<ss.length)(h:zbM (ss.getD q ByteArray.empty)=false):zen ss=false:=by
 rw[Bool.eq_false_iff];intro e;have:=(zdJ.1 e).1 ss[q] (gM_ b);rw[zif b]at h;rw[h]at this;cases this
theorem zop (b:q<ss.length)(h:ss.getD q ByteArray.empty∈ss.take q):zen ss=false:=by
 rw[Bool.eq_false_iff];intro e;rw[zif b,zkG]at h;obtain⟨i,d,f,c⟩:=h;have:=(zdJ.1 e).2;rw[List.Nodup,List.pairwise_iff_getElem]at this;exact this i q d b f c
structure zbu (w:World)(sa:Option Addr)(cap:Nat)(ss:List ByteArray):Prop where
 le:ss.length<=cap
 max:cap<=maxLen
 nil:sa=none->cap=0
 strs:zas w sa ss
theorem zbu.below (h:zbu w sa cap ss)(b:B_ w w'):zbu w' sa cap ss:=⟨h.le,h.max,h.nil,h.strs.below b⟩
theorem zjo {v:Value}(h:w.ownsRow base 9 1 v n (sv ss))(m:∀s∈ss,s.size<=maxLen):∃b rc,v=.slice b ss.length rc/\n=ss.length/\zbu w b rc ss/\∀f o,b=some ⟨f,o,none⟩->base<=f:=by
 obtain⟨b,rc,rfl,c,d,l⟩:=zf6 h m;refine⟨b,rc,by rw[c],c,?_,l⟩;rcases h.2 with⟨e,t⟩|⟨g,p,q,e,_,_,r,j,_,_⟩
 .cases e;exact⟨by omega,by decide,λ_=>rfl,d⟩
 .cases e;exact⟨by omega,j,(λe=>by cases e),d⟩
theorem zas.take (h:zas w sa ss)(k:Nat):zas w sa (ss.take k):=by
 refine⟨?_,λs f=>h.size s (List.mem_of_mem_take f)⟩;rcases h.cells with h|⟨g,l,rfl,c⟩
 .subst h;simp
 .refine .inr ⟨g,l,rfl,λj d=>?_⟩;have b:j<k/\j<ss.length:=by rw[lT9_]at d;omega
  rw[c j b.2];simp[List.getD,b.1]
theorem zas.drop {c d:Nat}(h:zas w (some ⟨c,d,none⟩) ss)(k:Nat):zas w (some ⟨c,d+k,none⟩) (ss.drop k):=by
 refine⟨?_,λs m=>h.size s (List.mem_of_mem_drop m)⟩;rcases h.cells with h|⟨b,o,e,f⟩
 .subst h;simp
 .cases e;refine .inr ⟨c,d+k,rfl,λj g=>?_⟩;have l:k+j<ss.length:=by simp at g;omega
  rw[Nat.add_assoc,f (k+j) l];simp[List.getD]
theorem ziK (s:ByteArray)(w:World)(f:s.size<=maxLen) :
  Calls prog 131 #[.string s] w λe w'=>e=.returned (.bool (zbM s))/\w=w':=by
 unfold maxLen at f;by_cases h1:1<=s.size
 .have c:(1:Int)<=s.size:=by omega
  by_cases h2:s.size<=20;have d:(s.size:Int)<=20:=by omega
  have b:Hid (zbM s=true):=by show _=_;simp[zbM,h1,h2]
  rotate_left
  have d:¬(s.size:Int)<=20:=by omega
  have b:Hid (zbM s=false):=by show _=_;simp[zbM,h2]
  rotate_left
  all_goals
   go_in;go_wp2_with fail
   go_ret;exact⟨zN b.out.symm,rfl⟩
 .have c:¬(1:Int)<=s.size:=by omega
  have b:Hid (zbM s=false):=by show _=_;simp[zbM,h1]
  go_in;go_wp2_with fail
  go_ret;exact⟨zN b.out.symm,rfl⟩
theorem ztt (h:k<ss.length):ss.take (k+1)=ss.take k++[ss.getD k ByteArray.empty]:=by
 rw[tS_ h];simp[List.getD,h]
theorem ztu (ss:List ByteArray)(j:Option Addr)(n l:Nat)(s:ByteArray)(w:World)(q:n=ss.length)(p:n<=maxLen)(f:zas w j ss) :
  Calls prog 174 #[.slice j n l,.string s] w λe w'=>∃r:Int,e=.returned (I_ r)/\(0<=r↔s∈ss)/\w=w':=by
 subst q;unfold maxLen at p;go_in;go_wp2_with fail
 go_loop [8] (λi=>∃k:Nat,k<=ss.length/\i=I_ k/\Hid (s ∉ ss.take k)) (λi=>ss.length-(intOf i).toNat)
 case atStart=>exact⟨0,nZ_ _,rfl,by show ¬_;simp⟩
 case round=>
  obtain⟨k,z,rfl,d⟩:=hrel;by_cases hlt:k<ss.length
  .rcases f.cells with b|⟨B,C,rfl,b⟩
   .subst b;simp at hlt
   have A:(k:Int)<ss.length:=by omega
   have y:=b k hlt;have u:Hid (ss.take (k+1)=ss.take k++[ss.getD k ByteArray.empty]):=ztt hlt;have o:Hid (ss.getD k ByteArray.empty∈ss):=by show _∈_;rw[zif hlt];exact gM_ hlt
   clear b f;generalize ss.getD k ByteArray.empty=x at*;by_cases he:s.toList=x.toList
   .have c:Hid (s=x):=zhf he;have m:(s.toList == x.toList)=true:=by simp[he]
    clear he;go_wp2_with fail
    go_ret;exact⟨(k:Int),rfl,⟨λ_=>by rw[c.out];exact o.out,λ_=>by omega⟩,rfl⟩
   .have c:Hid (s ∉ ss.take (k+1)):=by
     show ¬_;rw[u.out];intro h;rcases List.mem_append.1 h with g|g
     .exact d.out g
     .exact he (by rw[show s=x by simpa using g])
    have m:(s.toList == x.toList)=false:=by simp[he]
    clear he;go_wp2_with fail
    go_round
    case rel=>exact⟨k+1,by omega,by go_num,c⟩
    case measure=>simp[intOf];omega
  .obtain rfl:k=ss.length:=by omega
   have t:Hid (s ∉ ss):=by have:=d.out;rwa [tL_ (nR_ _)]at this
   go_wp2_with fail
   go_ret;exact⟨-1,rfl,⟨λh=>by omega,λh=>absurd h t.out⟩,rfl⟩
theorem zjO (ss:List ByteArray)(f:Option Addr)(n l:Nat)(s:ByteArray)(w:World)(o:n=ss.length)(m:n<=maxLen)(p:zas w f ss) :
  Calls prog 132 #[.slice f n l,.string s] w λe w'=>e=.returned (.bool (inS s ss))/\w=w':=by
 have j:=ztu ss f n l s w o m p;clear o m p;by_cases h:s∈ss;have c:Hid (inS s ss=true):=zon h
 rotate_left
 have c:Hid (inS s ss=false):=zm2 h
 rotate_left
 all_goals
  go_in;go_wp2_with fail
  refine j.mono ?_;rintro e t⟨r,d,b,rfl⟩;subst d;dsimp only
 have q:0<=r:=b.2 h
 rotate_left
 have q:¬0<=r:=λg=>h (b.1 g)
 rotate_left
 all_goals
  clear b;go_wp2_with fail
  go_ret;exact⟨zN c.out.symm,rfl⟩
def zdK (ss:List ByteArray)(t:ByteArray):Int:=if zbM t=false then 1 else if inS t ss=true then 7 else if 40<=ss.length then 6 else 0
def zcV (nx:Int)(ss:List ByteArray)(au:Int):Int:=if ¬(0<=au/\au<4)then 2 else if ss.length=0 then 8 else if 1048576<nx then 6 else 0
theorem zrA (nx:Int)(f:Option Addr)(n d:Nat)(ss:List ByteArray)(t:ByteArray)(w:World)(m:n=ss.length)(o:zbu w f d ss)(r:t.size<=maxLen) :
  Calls prog 106 #[.agg #[I_ nx,.slice f n d],.string t] w λe w'=>e=.returned (I_ (zdK ss t))/\B_ w w':=by
 have s:=o.le;have q:=o.max;refine kO_ ?A0 ?_;exact Obj.cells #[I_ nx,.slice f n d] 110;have l:=(bR_ w.heap.size w).alloc (nR_ _) ?A0;have c:=ziK t (w.alloc ?A0) r;have j:=zjO ss f n d t (w.alloc ?A0) m (by omega) (o.strs.below l);unfold maxLen at q;cases h1:zbM t with
 | false=>
  have b:Hid (zdK ss t=1):=by show _=_;rw[zdK,if_pos h1]
  rw[h1]at c;clear h1 m;go_in;go_wp2_with (go_at_call 131;refine c.mono ?_;rintro e g⟨rfl,rfl⟩)
  go_ret;exact⟨zt b.out.symm,l⟩
 | true=>
  rw[h1]at c;cases h2:inS t ss with
  | true=>
   have b:Hid (zdK ss t=7):=by show _=_;rw[zdK,if_neg (by simp[h1]),if_pos h2]
   rw[h2]at j;clear h1 h2 m;go_in;go_wp2_with (first|(go_at_call 131;refine c.mono ?_;rintro e g⟨rfl,rfl⟩)|(go_at_call 132;refine j.mono ?_;rintro e g⟨rfl,rfl⟩))
   go_ret;exact⟨zt b.out.symm,l⟩
  | false=>
   rw[h2]at j;by_cases h3:40<=n;have b:Hid (zdK ss t=6):=by show _=_;rw[zdK,if_neg (by simp[h1]),if_neg (by simp[h2]),if_pos (by omega)]
   have p:(40:Int)<=n:=by omega
   rotate_left
   have b:Hid (zdK ss t=0):=by show _=_;rw[zdK,if_neg (by simp[h1]),if_neg (by simp[h2]),if_neg (by omega)]
   have p:¬(40:Int)<=n:=by omega
   rotate_left
   all_goals
    clear h1 h2 m;go_in;go_wp2_with (first|(go_at_call 131;refine c.mono ?_;rintro e g⟨rfl,rfl⟩)|(go_at_call 132;refine j.mono ?_;rintro e g⟨rfl,rfl⟩))
    go_ret;exact⟨zt b.out.symm,l⟩
theorem ztv (nx:Int)(g:Option Addr)(n f:Nat)(ss:List ByteArray)(au:Int)(w:World)(d:n=ss.length)(j:n<=maxLen) :
  Calls prog 175 #[.agg #[I_ nx,.slice g n f],I_ au] w λe w'=>e=.returned (I_ (zcV nx ss au))/\B_ w w':=by
 have c:=(bR_ w.heap.size w).alloc (nR_ _) (.cells #[I_ nx,.slice g n f] 110);unfold maxLen at j;by_cases h0:au<0;have b:Hid (zcV nx ss au=2):=by show _=_;rw[zcV,if_pos (by omega)]
 clear d
 rotate_left
 by_cases h1:4<=au;have b:Hid (zcV nx ss au=2):=by show _=_;rw[zcV,if_pos (by omega)]
 clear d
 rotate_left
 by_cases h2:n=0;have b:Hid (zcV nx ss au=8):=by show _=_;rw[zcV,if_neg (by omega),if_pos (by omega)]
 clear d;subst h2
 rotate_left
 have l:((n:Int) == 0)=false:=beq_eq_false_iff_ne.2 (by omega);by_cases h3:1048576<nx;have b:Hid (zcV nx ss au=6):=by show _=_;rw[zcV,if_neg (by omega),if_neg (by omega),if_pos h3]
 clear d
 rotate_left
 have b:Hid (zcV nx ss au=0):=by show _=_;rw[zcV,if_neg (by omega),if_neg (by omega),if_neg h3]
 clear d
 rotate_left
 all_goals
  go_in;go_wp2_with fail
  go_ret;exact⟨zt b.out.symm,c⟩
variable {au:Int}{t:ByteArray}
theorem zkH (nx:Int)(ss:List ByteArray):zaO nx ss=0\/zaO nx ss=12:=by
 unfold zaO;split
 .exact .inr rfl
 .split
  .exact .inl rfl
  .exact .inr rfl
def zcD (nx:Int)(ss:List ByteArray)(t:ByteArray):Int:=if zaO nx ss=0 then zdK ss t else 12
def zk3 (nx:Int)(ss:List ByteArray)(t:ByteArray):List ByteArray:=if zcD nx ss t=0 then ss++[t]else []
def zmh (nx:Int)(ss:List ByteArray)(t:ByteArray):Int:=if zcD nx ss t=0 then nx else 0
def zb4 (nx:Int)(ss:List ByteArray)(au:Int):Int:=if zaO nx ss=0 then zcV nx ss au else 12
def zlx (nx:Int)(ss:List ByteArray)(au:Int):List ByteArray:=if zb4 nx ss au=0 then ss.take 4 else []
def zly (nx:Int)(ss:List ByteArray)(au:Int):List ByteArray:=if zb4 nx ss au=0 then ss.drop 4 else []
def znX (nx:Int)(ss:List ByteArray)(au:Int):Int:=if zb4 nx ss au=0 then nx+1 else 0
def znY (nx:Int)(ss:List ByteArray)(au:Int):Int:=if zb4 nx ss au=0 then au else 0
def zlz (nx:Int)(ss:List ByteArray)(au:Int):Int:=if zb4 nx ss au=0 then nx else 0
structure zgu (w w':World)(e:Ending)(nx:Int)(ss:List ByteArray)(t:ByteArray):Prop where
 out:∃v,e=.returned (.tuple #[.agg #[I_ (zmh nx ss t),v],I_ (zcD nx ss t)])/\w'.ownsRow w.heap.size 9 1 v (zk3 nx ss t).length (sv (zk3 nx ss t))/\B_ w w'
theorem zgu.bad {nx b:Int}(d:zcD nx ss t=b)(c:b≠0)(f:B_ w w'):zgu w w' (.returned (.tuple #[.agg #[I_ 0,O_],I_ b])) nx ss t:=by
 subst d;refine⟨O_,?_,?_,f⟩
 .rw[zmh,if_neg c]
 .rw[zk3,if_neg c];exact oN_ _ _ _ _
theorem zgu.good {nx:Int}{v:Value}(b:zcD nx ss t=0)(d:k=ss.length+1)(f:w'.ownsRow w.heap.size 9 1 v k (sv (ss++[t])))(c:B_ w w'):zgu w w' (.returned (.tuple #[.agg #[I_ nx,v],I_ 0])) nx ss t:=by
 subst d;refine⟨v,?_,?_,c⟩
 .rw[zmh,if_pos b,b]
 .rw[zk3,if_pos b,lP_];exact f
structure zfN (w w':World)(e:Ending)(nx:Int)(ss:List ByteArray)(au:Int):Prop where
 out:∃v u,e=.returned (.tuple #[.agg #[I_ (znX nx ss au),v],.agg #[I_ (znY nx ss au),I_ (zlz nx ss au),u],I_ (zb4 nx ss au)])/\w'.ownsRow w.heap.size 9 1 v (zly nx ss au).length (sv (zly nx ss au))/\w'.ownsRow w.heap.size 9 1 u (zlx nx ss au).length (sv (zlx nx ss au))/\B_ w w'
theorem zfN.bad {nx c:Int}(d:zb4 nx ss au=c)(b:c≠0)(f:B_ w w'):zfN w w' (.returned (.tuple #[.agg #[I_ 0,O_],.agg #[I_ 0,I_ 0,O_],I_ c])) nx ss au:=by
 subst d;refine⟨O_,O_,?_,?_,?_,f⟩
 .rw[znX,znY,zlz,if_neg b,if_neg b,if_neg b]
 .rw[zly,if_neg b];exact oN_ _ _ _ _
 .rw[zlx,if_neg b];exact oN_ _ _ _ _
theorem zfN.good {nx:Int}{v u:Value}{m:Nat}(b:zb4 nx ss au=0)(d:k=(ss.drop 4).length)(f:m=(ss.take 4).length)(g:w'.ownsRow w.heap.size 9 1 v k (sv (ss.drop 4)))(j:w'.ownsRow w.heap.size 9 1 u m (sv (ss.take 4)))(c:B_ w w'):zfN w w' (.returned (.tuple #[.agg #[I_ (nx+1),v],.agg #[I_ au,I_ nx,u],I_ 0])) nx ss au:=by
 subst d f;refine⟨v,u,?_,?_,?_,c⟩
 .rw[znX,znY,zlz,if_pos b,if_pos b,if_pos b,b]
 .rw[zly,if_pos b];exact g
 .rw[zlx,if_pos b];exact j
theorem zvv {nx:Int}(h:zaO nx ss≠0):zcD nx ss t=12:=by rw[zcD,if_neg h]
theorem zm3 {nx:Int}(h:zaO nx ss=0):zcD nx ss t=zdK ss t:=by rw[zcD,if_pos h]
theorem zm4 {nx:Int}(h:zaO nx ss≠0):zb4 nx ss au=12:=by rw[zb4,if_neg h]
theorem zlA {nx:Int}(h:zaO nx ss=0):zb4 nx ss au=zcV nx ss au:=by rw[zb4,if_pos h]
theorem zjP {nx:Int}(h:zaO nx ss=0):1<=nx/\nx<=1048577/\ss.length<=40/\zen ss=true:=by
 unfold zaO at h
 split at h
 .cases h
 .rename_i c
  split at h
  .rename_i b
   exact⟨by omega,by omega,by omega,b⟩
  .cases h
def zaC (p:Nat->Bool):Nat->Int
 | 0=>-1
 | k+1=>if 0<=zaC p k then zaC p k else if p k=true then(k:Int)else -1
theorem zkl (p:Nat->Bool)(k:Nat):-1<=zaC p k/\zaC p k<k:=by
 induction k with
 | zero=>exact⟨by simp[zaC],by simp[zaC]⟩
 | succ k ih=>
  rw[zaC]
  split
  .omega
  .split<;>omega
theorem zm5 (p:Nat->Bool)(m k:Nat)(h:0<=zaC p m)(b:m<=k):zaC p k=zaC p m:=by
 induction k with
 | zero=>
  obtain rfl:m=0:=by omega
  rfl
 | succ k ih=>
  rcases Nat.lt_or_ge m (k+1)with g|g
  .rw[zaC,ih (by omega),if_pos h]
  .obtain rfl:m=k+1:=by omega
   rfl
theorem zgc (p:Nat->Bool)(m k:Nat)(h:zaC p m=-1)(c:p m=true)(b:m<k):zaC p k=m:=by
 have e:zaC p (m+1)=m:=by rw[zaC,h];simp[c]
 rw[zm5 p (m+1) k (by rw[e];omega) b,e]
theorem zgv (p:Nat->Bool)(m:Nat)(h:zaC p m=-1)(b:p m=false):zaC p (m+1)=-1:=by rw[zaC,h];simp[b]
theorem zrB (p q:Nat->Bool)(k:Nat)(h:∀j,j<k->p j=q j):zaC p k=zaC q k:=by
 induction k with
 | zero=>rfl
 | succ k ih=>rw[zaC,zaC,ih (λj b=>h j (by omega)),h k (by omega)]
theorem zoq (p:Nat->Bool)(k:Nat)(h:0<=zaC p k):p (zaC p k).toNat=true:=by
 induction k with
 | zero=>simp[zaC]at h
 | succ k ih=>
  rw[zaC]at h|-
  split
  .rename_i g
   exact ih g
  .rename_i g
   rw[if_neg g]at h
   split
   .rename_i b
    simpa using b
   .rename_i b
    rw[if_neg b]at h;omega
theorem zqP (p:Nat->Bool)(k:Nat)(h:zaC p k<0)(j:Nat)(c:j<k):p j=false:=by
 induction k with
 | zero=>omega
 | succ k ih=>
  rw[zaC]at h
  split at h
  .omega
  .rename_i g
   split at h
   .omega
   .rename_i b
    rcases Nat.lt_or_ge j k with q|q
    .exact ih (by omega) q
    .obtain rfl:j=k:=by omega
     simpa using b
variable {rd:Int}{vl:List Int}{bl pl:List zi}
structure Ct where
 au:Int
 rd:Int
 ba:Option Addr
 bc:Nat
 bl:List zi
 pa:Option Addr
 pc:Nat
 pl:List zi
 va:Option Addr
 vc:Nat
 vl:List Int
abbrev crow_ (x:Ct):Array Value:=#[.int .i64 x.au,.int .i64 x.rd,.slice x.ba x.bl.length x.bc,.slice x.pa x.pl.length x.pc,.slice x.va x.vl.length x.vc]
abbrev hrow_ (x:Ct):Array Value:=#[.int .i64 x.au,.int .i64 x.rd,.slice x.ba x.bl.length x.bc,.slice x.pa x.pl.length x.pc]
structure CV where
 au:Int
 rd:Int
 bl:List (List Int)
 pl:List (List Int)
 vl:List Int
def bss (l:List zi):List (List Int):=l.map (·.bs)
theorem zcQ (l:List zi):(bss l).length=l.length:=by simp[bss]
def pz (l:List (List Int)):List zi:=l.map λb=>⟨none,0,b⟩
theorem zcH (l:List zi):zbm (pz (bss l)) l:=by
 show(pz (bss l)).map (·.bs)=l.map (·.bs);simp[pz,bss]
theorem zw5 (l:List zi)(k:Nat)(h:k<l.length):(bss l).getD k []=(l[k]).bs:=by simp[bss,h]
theorem zor {l m:List zi}(h:zbm l m):bss l=bss m:=h
def Ct.v (c:Ct):CV:=⟨c.au,c.rd,bss c.bl,bss c.pl,c.vl⟩
def CV.f (c:CV):Int:=zap c.au c.rd (pz c.bl) (pz c.pl) c.vl
def CV.hf (c:CV):Int:=zO c.au c.rd (pz c.bl) (pz c.pl)
def CV.d (c:CV):List Int:=zaE c.au c.rd (pz c.bl) (pz c.pl)
theorem ziL {b c:List zi}(vl:List Int)(d:zbm b bl)(f:zbm c pl):zap au rd b c vl=zap au rd bl pl vl:=by
 rw[zap,zap,zfk d f]
theorem Ct.f_v (c:Ct):zap c.au c.rd c.bl c.pl c.vl=c.v.f:=(ziL c.vl (zcH c.bl) (zcH c.pl)).symm
theorem Ct.hf_v (c:Ct):zO c.au c.rd c.bl c.pl=c.v.hf:=(zfk (zcH c.bl) (zcH c.pl)).symm
theorem Ct.d_v (c:Ct):zaE c.au c.rd c.bl c.pl=c.v.d:=by
 rw[CV.d,zaE,zaE];show zhV 2 _=zhV 2 (zaZ c.au c.rd (pz (bss c.bl)) (pz (bss c.pl)));rw[zhX (zcH c.bl) (zcH c.pl)]
theorem CV.d_length (c:CV):c.d.length=32:=zbD _ _ _ _
theorem zfO (h:zap au rd bl pl vl=0):zO au rd bl pl=0:=by
 rw[zap]at h
 split at h
 .exact h
 .rename_i g
  simpa using g
def zI (ls:List Ct):List CV:=ls.map Ct.v
theorem zbv (b:List Ct):(zI b).length=b.length:=by simp[zI]
theorem zvw (b:List Ct)(k:Nat):zI (b.take k)=(zI b).take k:=by simp[zI,List.map_take]
def zaM (l:List CV)(k:Nat):CV:=l.getD k ⟨0,0,[],[],[]⟩
theorem zk4 (b:List Ct)(k:Nat)(h:k<b.length):zaM (zI b) k=(b[k]).v:=by simp[zaM,zI,h]
def zfp (l:List CV)(au rd:Int)(j:Nat):Bool:=decide ((zaM l j).au=au/\(zaM l j).rd=rd)
theorem zvx (b:List Ct)(au rd:Int)(k:Nat)(h:k<b.length):zfp (zI b) au rd k=decide ((b[k]).au=au/\(b[k]).rd=rd):=by rw[zfp,zk4 b k h];rfl
def cOf (l:List CV)(au rd:Int):Int:=zaC (zfp l au rd) l.length
def zmi (l:List CV)(d:List Int)(j:Nat):Bool:=decide (txL (zaM l j).d=txL d)
def pOf (l:List CV)(d:List Int):Int:=zaC (zmi l d) l.length
theorem zrC (l:List CV)(d:List Int):-1<=pOf l d/\pOf l d<l.length:=zkl _ _
theorem zlB (l:List CV)(au rd:Int):-1<=cOf l au rd/\cOf l au rd<l.length:=zkl _ _
def ziM (l:List CV)(rd:Int)(d:List Int):Int:=if pOf l d<0 then 8 else if(zaM l (pOf l d).toNat).rd≠rd-1 then 9 else 0
def zb5 (l:List CV)(rd:Int)(pl:List (List Int)):Nat->Int
 | 0=>0
 | m+1=>if zb5 l rd pl m=9 then 9 else if ziM l rd (pl.getD m [])=0 then zb5 l rd pl m else ziM l rd (pl.getD m [])
def zdz (l:List CV)(rd:Int)(pl:List (List Int)):Int:=zb5 l rd pl pl.length
theorem zlC (l:List CV)(rd:Int)(pl:List (List Int))(m k:Nat)(h:zb5 l rd pl m=9)(b:m<=k):zb5 l rd pl k=9:=by
 induction k with
 | zero=>
  obtain rfl:m=0:=by omega
  exact h
 | succ k ih=>
  rcases Nat.lt_or_ge m (k+1)with g|g
  .rw[zb5,if_pos (ih (by omega))]
  .obtain rfl:m=k+1:=by omega
   exact h
theorem zlD (l:List CV)(rd:Int)(pl:List (List Int))(m:Nat)(h:zb5 l rd pl m≠9)(b:pOf l (pl.getD m [])<0):zb5 l rd pl (m+1)=8:=by
 rw[zb5,if_neg h,ziM,if_pos b]
 rfl
theorem zpW (l:List CV)(rd:Int)(pl:List (List Int))(m:Nat)(c:¬pOf l (pl.getD m [])<0)(d:(zaM l (pOf l (pl.getD m [])).toNat).rd≠rd-1)(b:m<pl.length):zdz l rd pl=9:=by
 have e:zb5 l rd pl (m+1)=9:=by
  rw[zb5,ziM,if_neg c,if_pos d]
  split
  .rfl
  .rfl
 exact zlC l rd pl (m+1) _ e b
theorem zos (l:List CV)(rd:Int)(pl:List (List Int))(m:Nat)(b:¬pOf l (pl.getD m [])<0)(c:(zaM l (pOf l (pl.getD m [])).toNat).rd=rd-1):zb5 l rd pl (m+1)=zb5 l rd pl m:=by
 have e:ziM l rd (pl.getD m [])=0:=by rw[ziM,if_neg b,if_neg (λh=>h c)]
 rw[zb5,if_pos e]
 split
 .rename_i h
  exact h.symm
 .rfl
def zdL (l:List CV)(pl:List (List Int)):Nat->List (List Int)
 | 0=>[]
 | m+1=>if pOf l (pl.getD m [])<0 then zdL l pl m++[pl.getD m []]else zdL l pl m
def zmj (l:List CV)(pl:List (List Int)):List (List Int):=zdL l pl pl.length
theorem zot (l:List CV)(pl:List (List Int))(m:Nat):(zdL l pl m).length<=m:=by
 induction m with
 | zero=>simp[zdL]
 | succ m ih=>
  rw[zdL]
  split
  .simp;omega
  .omega
theorem zm6 (l:List CV)(rd:Int)(pl:List (List Int))(m:Nat)(h:zb5 l rd pl m≠9):zb5 l rd pl m=if(zdL l pl m).length=0 then 0 else 8:=by
 induction m with
 | zero=>rfl
 | succ m ih=>
  have h':zb5 l rd pl m≠9:=λe=>h (zlC l rd pl m (m+1) e (by omega));by_cases hp:pOf l (pl.getD m [])<0
  .rw[zlD l rd pl m h' hp,zdL,if_pos hp,if_neg (by simp)]
  .by_cases hr:(zaM l (pOf l (pl.getD m [])).toNat).rd=rd-1
   .rw[zos l rd pl m hp hr,zdL,if_neg hp];exact ih h'
   .exfalso
    apply h
    rw[zb5,ziM,if_neg hp,if_pos hr]
    split
    .rfl
    .rfl
def zfc (l:List CV)(au rd:Int)(pl:List (List Int)):Int:=if 0<=cOf l au rd then 7 else zdz l rd pl
def zgH (l:List CV)(k:Nat):Bool:=decide ((zaM l k).f≠0)||decide (zfc (l.take k) (zaM l k).au (zaM l k).rd (zaM l k).pl≠0)
def zbV (l:List CV):Int:=if 400<l.length\/(List.range l.length).any (zgH l)=true then 12 else 0
theorem zzC (l:List CV)(k:Nat)(b:k<l.length)(h:zgH l k=true):zbV l=12:=by
 rw[zbV,if_pos]
 right
 simp only[List.any_eq_true];exact⟨k,by simpa using b,h⟩
theorem zw6 (l:List CV)(c:l.length<=400)(h:∀k,k<l.length->zgH l k=false):zbV l=0:=by
 rw[zbV,if_neg];rintro(g|g)
 .omega
 .simp only[List.any_eq_true]at g;obtain⟨k,b,e⟩:=g;rw[h k (by simpa using b)]at e;cases e
theorem zgw {l:List CV}(h:zbV l=0):l.length<=400/\∀k,k<l.length->zgH l k=false:=by
 rw[zbV]at h
 split at h
 .cases h
 .rename_i g
  refine⟨by omega,λk b=>?_⟩;cases e:zgH l k with
  | false=>rfl
  | true=>exact absurd (.inr (List.any_eq_true.2 ⟨k,by simpa using b,e⟩)) g
theorem zx4 (l:List CV)(k:Nat)(h:zgH l k=false):(zaM l k).f=0:=by
 simp only[zgH,Bool.or_eq_false_iff,decide_eq_false_iff_not,ne_eq,Decidable.not_not]at h;exact h.1
structure zba (w:World)(sa:Option Addr)(ls:List Ct):Prop where
 cells:ls=[]\/∃sb so,sa=some ⟨sb,so,none⟩/\∀j (h:j<ls.length),w.cell? ⟨sb,so+j*5,none⟩=some (I_ (ls[j]).au)/\w.cell? ⟨sb,so+j*5+1,none⟩=some (I_ (ls[j]).rd)/\w.cell? ⟨sb,so+j*5+2,none⟩=some (.slice (ls[j]).ba (ls[j]).bl.length (ls[j]).bc)/\w.cell? ⟨sb,so+j*5+3,none⟩=some (.slice (ls[j]).pa (ls[j]).pl.length (ls[j]).pc)/\w.cell? ⟨sb,so+j*5+4,none⟩=some (.slice (ls[j]).va (ls[j]).vl.length (ls[j]).vc)
theorem zba.below {l:List Ct}(h:zba w sa l)(d:B_ w w'):zba w' sa l:=by
 refine⟨?_⟩;rcases h.cells with h|⟨b,c,rfl,s⟩
 .exact .inl h
 .refine .inr ⟨b,c,rfl,λj t=>?_⟩;obtain⟨g,m,o,q,r⟩:=s j t;have f:b<w.heap.size:=bL_ g;exact⟨(d.cell (p:=⟨b,c+j*5,none⟩) f).trans g,(d.cell (p:=⟨b,c+j*5+1,none⟩) f).trans m,(d.cell (p:=⟨b,c+j*5+2,none⟩) f).trans o,(d.cell (p:=⟨b,c+j*5+3,none⟩) f).trans q,(d.cell (p:=⟨b,c+j*5+4,none⟩) f).trans r⟩
theorem zba.take {b:List Ct}(h:zba w sa b)(k:Nat):zba w sa (b.take k):=by
 refine⟨?_⟩;rcases h.cells with h|⟨g,l,rfl,c⟩
 .left;simp[h]
 .refine .inr ⟨g,l,rfl,λj d=>?_⟩;have f:j<b.length:=by simp at d;omega
  have:=c j f
  simpa[List.getElem_take]using this
theorem zba.at {b:List Ct}(h:zba w sa b)(m:Nat)(f:m<b.length):∃c d,sa=some ⟨c,d,none⟩/\w.cell? ⟨c,d+m*5,none⟩=some (I_ (b[m]).au)/\w.cell? ⟨c,d+m*5+1,none⟩=some (I_ (b[m]).rd)/\w.cell? ⟨c,d+m*5+2,none⟩=some (.slice (b[m]).ba (b[m]).bl.length (b[m]).bc)/\w.cell? ⟨c,d+m*5+3,none⟩=some (.slice (b[m]).pa (b[m]).pl.length (b[m]).pc)/\w.cell? ⟨c,d+m*5+4,none⟩=some (.slice (b[m]).va (b[m]).vl.length (b[m]).vc):=by
 rcases h.cells with h|⟨c,d,rfl,g⟩
 .rw[h]at f;simp at f
 .exact⟨c,d,rfl,g m f⟩
structure za7 (w:World)(c:Ct):Prop where
 hat:HAt w c.ba c.bc c.bl c.pa c.pc c.pl
 ints:zax w c.va c.vl
 vle:c.vl.length<=9000000000000000000
theorem za7.below {c:Ct}(h:za7 w c)(b:B_ w w'):za7 w' c:=⟨h.hat.below b,h.ints.below b,h.vle⟩
structure zy5 (w:World)(sa:Option Addr)(cap:Nat)(ls:List Ct):Prop where
 le:ls.length<=cap
 max:cap<=9223372036854775807
 small:ls.length<=3000000000000000000
 some:cap=0\/∃sb so,sa=some ⟨sb,so,none⟩
 certs:zba w sa ls
 each:∀c∈ls,za7 w c
end Go.Proofs.YtdnaljbnebnlhaaGreatDoor
