import Derived.Test.YtdnaljbnebnlhaaGreatDoorPk33
import Derived.Shelf.SlSortCmp.WholeK
set_option maxRecDepth 100000
set_option maxHeartbeats 4000000
namespace Go.Proofs.YtdnaljbnebnlhaaGreatDoor
open Go.RowKit Tryz
variable {w:World}{n B cap k j:Nat}{T:TypeId}{rd:Int}{ls:List Ct}{xs:List Value}{cur:Array Value}
def kpt (rd:Int)(c:Ct):Bool:=!decide (c.v.rd<rd)
structure zez (cur:Array Value)(cap:Nat)(ls:List Ct)(rd:Int)(j:Nat):Prop where
 siz:cur.size=cap*5
 le:ls.length<=cap
 low:∀k (h:k<((ls.take j).filter (kpt rd)).length) t,t<5->cur[k*5+t]? = (((ls.take j).filter (kpt rd))[k]).cs[t]?
 high:∀k (h:k<ls.length) t,j<=k->t<5->cur[k*5+t]? = (ls[k]).cs[t]?
 lt:((ls.take j).filter (kpt rd)).length<j
theorem zxL (b:List Ct)(rd:Int)(j:Nat):((b.take j).filter (kpt rd)).length<=b.length:=nT_ (List.length_filter_le _ _) (by rw[lT9_];omega)
theorem zmJ (b:List Ct)(rd:Int)(j:Nat)(c:j<b.length)(h:kpt rd (b[j])=false):(b.take (j+1)).filter (kpt rd)=(b.take j).filter (kpt rd):=by
 rw[tS_ c,List.filter_append];simp[h]
theorem zpp (b:List Ct)(rd:Int)(j:Nat)(c:j<b.length)(h:kpt rd (b[j])=true):(b.take (j+1)).filter (kpt rd)=(b.take j).filter (kpt rd)++[b[j]]:=by
 rw[tS_ c,List.filter_append];simp[h]
theorem zez.no (h:zez cur cap ls rd j)(d:j<ls.length)(c:kpt rd (ls[j])=false):zez cur cap ls rd (j+1):=by
 have e:=zmJ ls rd j d c;refine⟨h.siz,h.le,?_,λk c t a b=>h.high k c t (by omega) b,by rw[e];have:=h.lt;omega⟩;rw[e];exact h.low
theorem zez.yes {i:Nat}(h:zez cur cap ls rd j)(g:j<ls.length)(c:kpt rd (ls[j])=true)(m:i=((ls.take j).filter (kpt rd)).length):zez (zd4 cur (i*5) (ls[j]).cs) cap ls rd (j+1):=by
 have e:=zpp ls rd j g c;have d:(ls[j]).cs.length=5:=rfl;have q:=h.lt;have p:=h.le;have l:=h.siz;refine⟨by rw[zcW];exact h.siz,h.le,?_,λk c t a b=>?_,by rw[e];simp;omega⟩
 .rw[e];intro k c t f;rw[lP_]at c;by_cases ek:k=i
  .subst ek;rw[zg8 _ _ _ _ (by rw[d];exact f) (by rw[d,l];omega),List.getElem_append_right (by omega)]
   simp
  .have o:k<i:=by simp at c;omega
   rw[zdP _ _ _ _ (.inl (by omega)),List.getElem_append_left (by omega)];exact h.low k (by omega) t f
 .rw[zdP _ _ _ _ (.inr (by rw[d];omega))];exact h.high k c t (by omega) b
theorem zez.end {i:Nat}{g:List Value}(h:zez cur cap ls rd ls.length)(f:i=(ls.filter (kpt rd)).length):(zd4 cur (i*5) g).toList.take (i*5)=ctv (ls.filter (kpt rd)):=by
 have c:=h.low;have l:=h.siz;have j:=h.le;have d:=zxL ls rd ls.length;rw[List.take_length]at c d;subst f;refine List.ext_getElem? (λq=>?_);by_cases hq:q<(ls.filter (kpt rd)).length*5
 .rw[List.getElem?_take,if_pos hq,Array.getElem?_toList,zdP _ _ _ _ (.inl hq)];have e:q / 5*5+q % 5=q:=by omega
  have a:=c (q / 5) (by omega) (q % 5) (by omega);have b:=zfx (ls.filter (kpt rd)) (q / 5) (q % 5) (by omega) (by omega);rw[e]at a b;rw[a,b]
 .rw[List.getElem?_take,if_neg hq,List.getElem?_eq_none (by rw[ze3];omega)]
theorem znv (b:List Ct)(rd:Int)(k:Nat)(f:k<b.length)(h:zaC (zdv b rd) b.length=k):(b.take (k+1)).filter (kpt rd)=b.take k:=by
 have d:=zoq (zdv b rd) b.length (by omega);rw[h]at d;have d:zdv b rd k=true:=d;rw[zku b rd k f]at d;rw[zmJ b rd k f (by rw[kpt,d];rfl),List.filter_eq_self];intro c j;obtain⟨m,l,rfl⟩:=List.getElem_of_mem j;rw[lT9_]at l;have p:m<k:=by omega
 have g:zdv b rd m=false:=by
  by_cases e:zdv b rd m=true
  .have o:=zkl (zdv b rd) m;by_cases e2:zaC (zdv b rd) m=-1
   .have:=zgc _ m b.length e2 e (by omega);omega
   .have:=zm5 (zdv b rd) m b.length (by omega) (by omega);omega
  .simpa using e
 rw[zku b rd m (by omega)]at g;rw[List.getElem_take,kpt,g]
 rfl
theorem zwp (b:List Ct)(rd:Int)(h:zaC (zdv b rd) b.length=-1):b.filter (kpt rd)=b:=by
 rw[List.filter_eq_self];intro c g;obtain⟨m,d,rfl⟩:=List.getElem_of_mem g;have f:=zqP (zdv b rd) b.length (by omega) m d;rw[zku b rd m d]at f;rw[kpt,f]
 rfl
theorem zsC (f:k<ls.length)(h:zaC (zdv ls rd) ls.length=k)(j:cur.size=cap*5)(g:ls.length<=cap)(d:cur.toList.take (ls.length*5)=ctv ls):zez cur cap ls rd (k+1):=by
 have e:=znv ls rd k f h;have row:∀q (b:q<ls.length) t,t<5->cur[q*5+t]? = (ls[q]).cs[t]?:=λq b t c=>by
  rw[<-zfx ls q t b c,<-d,List.getElem?_take,if_pos (by omega),Array.getElem?_toList]
 refine⟨j,g,?_,λq b t _ c=>row q b t c,by rw[e,lT9_];omega⟩;rw[e];intro q b t c;rw[lT9_]at b;rw[List.getElem_take];exact row q (by omega) t c
theorem zl8 {b:Nat}{s:Nat}(h:w.ownsRow B T s (.slice (some ⟨b,0,none⟩) n cap) n xs):∃c,B<=b/\R_ w b c T/\n<=cap/\cap<=maxLen/\c.size=cap*s/\c.toList.take (n*s)=xs:=by
 rcases h.2 with⟨e,_⟩|⟨g,p,c,e,d,f,j,l,m,o⟩
 .cases e
 .cases e;exact⟨c,d,f,j,l,m,o⟩
theorem zpq (n:Nat):(Builtin.zeroCells (Value.agg #[I_ 0,I_ 0,O_,O_,O_]).cells n).toList.length=n*5:=by
 simp[Builtin.zeroCells,Value.cells]
theorem zpr (n:Nat):∀v∈(Builtin.zeroCells (Value.agg #[I_ 0,I_ 0,O_,O_,O_]).cells n).toList,v.oneCell'=true:=by
 intro v c;simp only[Builtin.zeroCells,Value.cells,Array.toList_map,List.mem_map]at c;obtain⟨i,_,rfl⟩:=c;have b:i % (#[I_ 0,I_ 0,O_,O_,O_]:Array Value).size<5:=Nat.mod_lt _ (by decide);generalize i % (#[I_ 0,I_ 0,O_,O_,O_]:Array Value).size=k at b|-
 match k,b with
 | 0,_=>rfl
 | 1,_=>rfl
 | 2,_=>rfl
 | 3,_=>rfl
 | 4,_=>rfl
theorem zl9 (d:n<=B):∀(c:List Value) (V:World) (o:Nat),Below n w V->Below n w (V.setCells B o c):=λc=>by
 induction c with
 | nil=>intro V o b;exact b
 | cons u r ih=>intro V o b;exact ih _ _ (b.setCell d _)
theorem zyN:(prog.info? 64).map (·.size)=some 5:=by kernel_rfl
theorem zez.go {i:Nat}(h:zez cur cap ls rd j)(c:j<ls.length)(b:i=((ls.take j).filter (kpt rd)).length)(f:decide ((ls[j]).v.rd<rd)=false):zez (zd4 cur (i*5) (ls[j]).cs) cap ls rd (j+1)/\i+1=((ls.take (j+1)).filter (kpt rd)).length:=by
 have d:kpt rd (ls[j])=true:=by rw[kpt,f];rfl
 refine⟨h.yes c d b,?_⟩;rw[zpp ls rd j c d,lP_,<-b]
 rfl
theorem zez.skip {i:Nat}(h:zez cur cap ls rd j)(b:j<ls.length)(f:i=((ls.take j).filter (kpt rd)).length)(d:decide ((ls[j]).v.rd<rd)=true):zez cur cap ls rd (j+1)/\i=((ls.take (j+1)).filter (kpt rd)).length:=by
 have c:kpt rd (ls[j])=false:=by rw[kpt,d];rfl
 refine⟨h.no b c,?_⟩;rw[zmJ ls rd j b c];exact f
theorem zqA (c:List Ct)(b d B:Nat)(rd:Int)(g:Nat)(w0 w:World)(hl:c.length<=400)(aw:B_ w0 w)(hB:w0.heap.size<=B)(ho:w.ownsRow B 64 5 (.slice (some ⟨b,0,none⟩) c.length d) c.length (ctv c))(az:g≠b)(hg:w.cell? ⟨g,0,none⟩=some (I_ rd))(hp:zba w (some ⟨b,0,none⟩) c) :
  Calls prog 201 #[.slice (some ⟨b,0,none⟩) c.length d,.func (.func 200) #[] #[P_ g 0]] w λe w'=>e=.returned (.slice (some ⟨b,0,none⟩) (c.filter (kpt rd)).length d)/\w'.ownsRow B 64 5 (.slice (some ⟨b,0,none⟩) (c.filter (kpt rd)).length d) (c.filter (kpt rd)).length (ctv (c.filter (kpt rd)))/\B_ w0 w':=by
 have HI:=zjt c (some ⟨b,0,none⟩) _ d rd g w rfl hl hp hg;have ai:=zkl (zdv c rd) c.length;obtain⟨g1,af,q0,ax,al,aD,aE⟩:=zl8 ho;go_in;go_wp2_with fail
 refine HI.mono ?_;rintro _ w1⟨rfl,F⟩;dsimp only;clear HI;have ad:=zm aw F;by_cases em:zaC (zdv c rd) c.length=-1
 .have HA:Hid _:=zwp c rd em;have aC:=zw ho F;rw[em];clear em ai;go_wp2_with fail
  go_ret;rw[HA.out];exact⟨rfl,aC,ad⟩
 .obtain⟨q,H⟩:∃k:Nat,zaC (zdv c rd) c.length=k:=⟨(zaC (zdv c rd) c.length).toNat,by omega⟩;have ak:q<c.length:=by omega
  have aq:Hid _:=zsC ak H aD ax aE;have av:Hid (q=((c.take (q+1)).filter (kpt rd)).length):=by show _=_;rw[znv c rd q ak H,lT9_,Nat.min_eq_left (by omega)]
  rw[H];have aJ:((q:Int) == -1)=false:=by simp
  clear em ai H;have q1:=zk F q0;have ay:=zr F hg;have ag:w0.heap.size<=b:=nT_ hB af;go_wp2_with fail
  go_loopw [6,5] (λjv iv wr=>∃(j i:Nat) (f:Array Value),j<=c.length/\jv=I_ j/\iv=I_ i/\Hid (i=((c.take j).filter (kpt rd)).length)/\i<j/\Hid (zez f d c rd j)/\R_ wr b f 64/\wr.cell? ⟨g,0,none⟩=some (I_ rd)/\B_ w0 wr) (λjv _ _=>c.length-(intOf jv).toNat)
  case atStart=>exact⟨q+1,q,_,by omega,by go_num,rfl,av,by omega,aq,q1,ay,ad⟩
  case round=>
   obtain⟨j,i,f,hj,rfl,rfl,D,aH,m,l,aj,Y⟩:=hrel;by_cases hlt:j<c.length
   .have aB:(j:Int)<c.length:=by omega
    have r:=m.out.high j hlt;have c0:wr.cell? ⟨b,j*5,none⟩=some (I_ (c[j]).au):=zb l (j*5) _ (r 0 (nR_ _) (by decide));have c1:wr.cell? ⟨b,j*5+1,none⟩=some (I_ (c[j]).rd):=zb l (j*5+1) _ (r 1 (nR_ _) (by decide));have c2:wr.cell? ⟨b,j*5+2,none⟩=some (.slice (c[j]).ba (c[j]).bl.length (c[j]).bc):=zb l (j*5+2) _ (r 2 (nR_ _) (by decide));have c3:wr.cell? ⟨b,j*5+3,none⟩=some (.slice (c[j]).pa (c[j]).pl.length (c[j]).pc):=zb l (j*5+3) _ (r 3 (nR_ _) (by decide));have c4:wr.cell? ⟨b,j*5+4,none⟩=some (.slice (c[j]).va (c[j]).vl.length (c[j]).vc):=zb l (j*5+4) _ (r 4 (nR_ _) (by decide));have I:Hid (decide ((c[j]).v.rd<rd)=false->zez (zd4 f (i*5) (c[j]).cs) d c rd (j+1)/\i+1=((c.take (j+1)).filter (kpt rd)).length):=m.out.go hlt D.out;have J:Hid (decide ((c[j]).v.rd<rd)=true->zez f d c rd (j+1)/\i=((c.take (j+1)).filter (kpt rd)).length):=m.out.skip hlt D.out;have HS:Hid (f.size=d*5/\c.length<=d):=⟨m.out.siz,m.out.le⟩;clear r m D;generalize c[j]=x at*;have z:=zC wr (.cells (crow_ x) 64);have o:=hN_ wr (.cells (crow_ x) 64);go_upto_region 8 with fail
    generalize wr.alloc (.cells (crow_ x) 64)=W3 at z o|-;have ab:=zr z aj;have ao:=(z.block b (ze l)).trans l;have ar:=zm Y z;generalize wr.heap.size=G at o|-;have M:=zb o 0 (I_ x.au) rfl;have N:=zb o 1 (I_ x.rd) rfl;refine kV_ ?A0 ?_;exact Value.slice x.ba x.bl.length x.bc;have O:=zb o 2 ?A0 rfl;refine kV_ ?B0 ?_;exact Value.slice x.pa x.pl.length x.pc;have R:=zb o 3 ?B0 rfl;refine kV_ ?C0 ?_;exact Value.slice x.va x.vl.length x.vc;have T:=zb o 4 ?C0 rfl;have HC:=zkV x rd g W3 ab;clear c0 c1 c2 c3 c4 l aj Y z;go_wp2_with fail
    refine HC.mono ?_;rintro _ u⟨rfl,C⟩;dsimp only;clear HC M N O R T;have s:=zk C o;have E:=zk C ao;have aa:=zr C ab;have U:=zm ar C;clear o ao ab C;generalize decide (x.v.rd<rd)=y at*;cases y with
    | true=>
     have p:=J.out rfl;have V:Hid _:=p.1;have X:Hid _:=p.2;clear p J I;go_wp2_with fail
     go_roundw
     case rel=>exact⟨j+1,i,f,by omega,by go_num,rfl,X,by omega,V,E,aa,U⟩
     case measure=>simp[intOf];omega
    | false=>
     have p:=I.out rfl;have V:Hid _:=p.1;have X:Hid _:=p.2;clear p J I;have M:=zb s 0 (I_ x.au) rfl;have N:=zb s 1 (I_ x.rd) rfl;have O:=zb s 2 ?A0 rfl;have R:=zb s 3 ?B0 rfl;have T:=zb s 4 ?C0 rfl;have aI:(i:Int)<c.length:=by omega
     have an:Hid (u.there b (i*5) 5):=λt ht=>by
      have hs:=HS.out;have hx:i*5+t<f.size:=by omega
      exact⟨by rw[zb E (i*5+t) (f[i*5+t]) (Array.getElem?_eq_getElem hx)];rfl,zd E _⟩
     have ap:Hid _:=zb7 x.cs u f (i*5) E;have ah:Hid ((u.setCells b (i*5) x.cs).cell? ⟨g,0,none⟩=some (I_ rd)):=(cB_ (zbl x.cs u (i*5) az)).trans aa;have ae:Hid _:=zl9 ag x.cs u (i*5) U;clear E aa U HS s;have am:Hid (((crow_ x):Array Value).all (·.oneCell')=true):=by show _=_;simp[Value.oneCell']
     go_upto_region 10 with(refine wpList_store_mid rfl 64 (.tmp 33) (.tmp 32) rfl b (i*5) (crow_ x) rfl rfl an.out zyN am.out ?_)
     obtain⟨L,A⟩:∃W,u.setCells b (i*5) [I_ x.au,I_ x.rd,?A0,?B0,?C0]=W:=⟨_,rfl⟩;rw[A];have aF:R_ L b (zd4 f (i*5) x.cs) 64:=by rw[<-A];exact ap.out
     have aA:L.cell? ⟨g,0,none⟩=some (I_ rd):=by rw[<-A];exact ah.out
     have au:B_ w0 L:=by rw[<-A];exact ae.out
     clear A ap ah ae an am M N O R T;go_wp2_with fail
     go_roundw
     case rel=>exact⟨j+1,i+1,_,by omega,by go_num,by go_num,X,by omega,V,aF,aA,au⟩
     case measure=>simp[intOf];omega
   .obtain rfl:j=c.length:=by omega
    have aB:¬(c.length:Int)<c.length:=by omega
    have ac:Hid (i=(c.filter (kpt rd)).length):=by show _=_;rw[D.out,List.take_length]
    have hs:=m.out.siz;have aK:=m.out.le;have aG:∀ty,(Builtin.clear_ #[42] ty #[.slice (some ⟨b,i*5,none⟩) (c.length-i) (d-i)]).run prog wr=.ok (.tuple #[]) (wr.setCells b (i*5) (Builtin.zeroCells (Value.agg #[I_ 0,I_ 0,O_,O_,O_]).cells (c.length-i)).toList):=λty=>by
     refine zir _ 42 64 ty (.agg #[I_ 0,I_ 0,O_,O_,O_]) underlying42 zeroValue64 b _ _ _ (by omega) _ rfl (λt ht=>?_) (λt ht=>zd l _) (zpr _);rw[zpq]at ht;have hx:i*5+t<f.size:=by omega
     rw[zb l (i*5+t) (f[i*5+t]) (Array.getElem?_eq_getElem hx)];rfl
    have hO:Hid (∀W:World,W=wr.setCells b (i*5) (Builtin.zeroCells (Value.agg #[I_ 0,I_ 0,O_,O_,O_]).cells (c.length-i)).toList->W.ownsRow B 64 5 (.slice (some ⟨b,0,none⟩) i d) i (ctv (c.filter (kpt rd)))/\B_ w0 W):=by
     show ∀W,_;rintro W rfl;refine⟨⟨by rw[ze3,<-ac.out],.inr ⟨b,d,_,rfl,af,zb7 _ wr f (i*5) l,by omega,al,by rw[zcW];exact hs,m.out.end ac.out⟩⟩,zl9 ag _ wr (i*5) Y⟩
    have p1:(i:Int)<=c.length:=by omega
    have p2:i<=c.length:=by omega
    have p3:i<=d:=by omega
    have p4:¬d=i:=by omega
    have p5:(i:Int)<=d:=by omega
    have aL:d<=9223372036854775807:=al;clear m hs D l;go_wp2_with fail
    go_ret;rw[<-ac.out];obtain⟨o1,o2⟩:=hO.out _ rfl;exact⟨rfl,o1,o2⟩
theorem zwq (l:List Ct):∀u∈ctv l,u.oneCell'=true:=by
 induction l with
 | nil=>intro u b;cases b
 | cons c l ih=>
  intro u b;rcases List.mem_append.1 b with g|g
  .simp only[Ct.cs,List.mem_cons,List.not_mem_nil,or_false]at g;rcases g with e|e|e|e|e<;>subst e<;>rfl
  .exact ih u g
theorem zps {b:Nat}(h:w.ownsRow B 64 5 (.slice (some ⟨b,0,none⟩) n cap) n (ctv ls)):∀j u,(ctv ls)[j]? = some u->w.cell? ((⟨b,0,none⟩:Addr).add j)=some u:=λj u c=>by
 obtain⟨f,_,q,_,_,_,d⟩:=zl8 h
 rw[<-d,List.getElem?_take]at c
 split at c
 .rw[zaP,Nat.zero_add]
  exact zb q j u (by rw[<-Array.getElem?_toList];exact c)
 .cases c
theorem zqB (c:List Ct)(b d:Nat)(w:World)(B:c.length<=400)(g:w.ownsRow 0 64 5 (.slice (some ⟨b,0,none⟩) c.length d) c.length (ctv c)) :
  Calls prog 202 #[.slice (some ⟨b,0,none⟩) c.length d] w λe w'=>∃v,e=.returned v/\w'.ownsRow w.heap.size 64 5 v c.length (ctv c)/\B_ w w':=by
 have A:∀w:World,(binOp .eql 42 (.slice (some ⟨b,0,none⟩) c.length d) (O_)).run prog w=.ok (.bool false) w:=λ_=>rfl;have f:=zC w (.cells #[] 64);have m:Hid (∀j u,(ctv c)[j]? = some u->(w.alloc (.cells #[] 64)).cell? ((⟨b,0,none⟩:Addr).add j)=some u):=zps (oA_ g _);obtain⟨y,p,r,s,t⟩:=info_parts zoI;clear g;go_in;go_wp2_with (at_builtin;refine wpList_append_own_at _ rfl _ _ 42 rfl w.heap.size 64 y (.agg #[I_ 0,I_ 0,O_,O_,O_]) 5 88 underlying42 p r s t rfl (by decide) _ 0 [] rfl (World.ownsRow_made _ _ 0 (nR_ _) (by decide) rfl) ⟨b,0,none⟩ c.length d (ctv c) rfl (ze3 c) m.out (zwq c) (by unfold maxLen;omega) (by omega) f.size ?_;intro z C l o _ _)
 rw[List.nil_append,Nat.zero_add]at l;go_ret;exact⟨z,rfl,l,Below.grown f o f.size (λq e=>(World.ownsRow.lt (World.ownsRow_made (e:=64) (size:=5) w #[] 0 (nR_ _) (by decide) rfl) q e).1)⟩
open Go.Shelf
def zma:Go.Shelf.Ren:=⟨fun|6=>203|15=>227|14=>230|28=>251|29=>252|20=>253|21=>254|22=>255|23=>256|24=>257|25=>258|26=>259|27=>260|46=>266|47=>262|48=>263|49=>267|50=>268|57=>270|n=>n,fun|22=>42|24=>64|25=>273|3=>3|39=>132|0=>0|53=>188|55=>305|4=>4|46=>297|45=>296|50=>301|5=>5|9=>9|66=>316|70=>320|76=>324|77=>325|n=>n,fun|n=>n⟩
theorem zuN:Go.Proofs.SlLaysF0.n6 prog zma:={
 mixed:=by kernel_rfl
 f6:=⟨Tryz.f203.name,by decide,func203.trans (congrArg some (by kernel_rfl))⟩
 f14:=⟨Tryz.f230.name,by decide,func230.trans (congrArg some (by kernel_rfl))⟩
 f15:=func227.trans (congrArg some (by kernel_rfl))
 f20:=⟨Tryz.f253.name,by decide,func253.trans (congrArg some (by kernel_rfl))⟩
 f21:=⟨Tryz.f254.name,by decide,func254.trans (congrArg some (by kernel_rfl))⟩
 f22:=⟨Tryz.f255.name,by decide,func255.trans (congrArg some (by kernel_rfl))⟩
 f23:=⟨Tryz.f256.name,by decide,func256.trans (congrArg some (by kernel_rfl))⟩
 f24:=⟨Tryz.f257.name,by decide,func257.trans (congrArg some (by kernel_rfl))⟩
 f25:=⟨Tryz.f258.name,by decide,func258.trans (congrArg some (by kernel_rfl))⟩
 f26:=⟨Tryz.f259.name,by decide,func259.trans (congrArg some (by kernel_rfl))⟩
 f27:=⟨Tryz.f260.name,by decide,func260.trans (congrArg some (by kernel_rfl))⟩
 f28:=func251.trans (congrArg some (by kernel_rfl))
 f29:=func252.trans (congrArg some (by kernel_rfl))
 f46:=⟨Tryz.f266.name,by decide,func266.trans (congrArg some (by kernel_rfl))⟩
 f47:=func262.trans (congrArg some (by kernel_rfl))
 f48:=func263.trans (congrArg some (by kernel_rfl))
 f49:=⟨Tryz.f267.name,by decide,func267.trans (congrArg some (by kernel_rfl))⟩
 f50:=⟨Tryz.f268.name,by decide,func268.trans (congrArg some (by kernel_rfl))⟩
 f57:=⟨Tryz.f270.name,by decide,func270.trans (congrArg some (by kernel_rfl))⟩
 t0:=underlying0
 a0:=isAgg0
 z0:=sizeOf0
 v0:=zeroValue0
 t3:=underlying3
 a3:=isAgg3
 z3:=sizeOf3
 v3:=zeroValue3
 t4:=underlying4
 a4:=isAgg4
 z4:=sizeOf4
 v4:=zeroValue4
 t5:=underlying5
 a5:=isAgg5
 z5:=sizeOf5
 v5:=zeroValue5
 t9:=underlying9
 a9:=isAgg9
 z9:=sizeOf9
 v9:=zeroValue9
 t22:=underlying42
 a22:=isAgg42
 z22:=sizeOf42
 v22:=zeroValue42
 t25:=underlying273
 a25:=isAgg273
 z25:=sizeOf273
 v25:=zeroValue273
 t39:=underlying132
 a39:=isAgg132
 z39:=sizeOf132
 v39:=zeroValue132
 t45:=underlying296
 a45:=isAgg296
 z45:=sizeOf296
 v45:=zeroValue296
 t46:=underlying297
 a46:=isAgg297
 z46:=sizeOf297
 v46:=zeroValue297
 t50:=underlying301
 a50:=isAgg301
 z50:=sizeOf301
 v50:=zeroValue301
 t53:=underlying188
 a53:=isAgg188
 z53:=sizeOf188
 v53:=zeroValue188
 t55:=underlying305
 a55:=isAgg305
 z55:=sizeOf305
 v55:=zeroValue305
 t66:=underlying316
 a66:=isAgg316
 z66:=sizeOf316
 v66:=zeroValue316
 t70:=underlying320
 a70:=isAgg320
 z70:=sizeOf320
 v70:=zeroValue320
 t76:=underlying324
 a76:=isAgg324
 z76:=sizeOf324
 v76:=zeroValue324
 t77:=underlying325
 a77:=isAgg325
 z77:=sizeOf325
 v77:=zeroValue325 }
open Go.Sort
theorem znO {α:Type}[Inhabited α](d:α->List Value)(k:Nat){w:World}(b g m:Nat)(c:Array α)(os:Array Obj)(j:Nat)(f:j<w.heap.size)(l:j≠b):(sortWorldK d k w b g m c os).heap[j]? = w.heap[j]?:=by
 unfold sortWorldK;rw[heap_grow_old _ _ (by rw[size_putRowK];exact f)];show((Sort.ahead w m).heap.modify b _)[j]? = _;rw[Array.getElem?_modify,if_neg (by omega)]
 rfl
theorem znP {α:Type}[Inhabited α](d:α->List Value)(k:Nat){w0 w:World}(b f m:Nat)(c:Array α)(os:Array Obj)(g:Go.RowKit.Below w0.heap.size w0 w)(h:w0.heap.size<=b):Go.RowKit.Below w0.heap.size w0 (sortWorldK d k w b f m c os):=by
 have o:w.heap.size<=(sortWorldK d k w b f m c os).heap.size:=size_sortWorldK_c d k w b f m c os;refine g.trans ⟨rfl,rfl,rfl,o,λj l=>?_⟩;exact znO d k b f m c os j (nL_ l g.size) (by omega)
theorem zsD [Inhabited Ct](ds:List Ct):flatK Ct.cs 5 ds.toArray=(ctv ds).toArray:=by
 refine ext_get! (by simp[ze3]) λt j=>?_;have l:t<ds.length*5:=by simpa using j
 rw[get_flatK _ _ _ _ (by simpa using l)];have c:t / 5<ds.length:=by omega
 have b:=zfx ds (t / 5) (t % 5) c (by omega);have g:t / 5*5+t % 5=t:=by omega
 rw[g]at b;have d:(ctv ds).toArray[t]! = ((ctv ds)[t]?).getD default:=by simp[Array.getElem!_eq_getD,Array.getD_eq_getD_getElem?]
 rw[d,b];have f:ds.toArray[t / 5]! = ds[t / 5]:=by simp[c]
 rw[f];simp[List.getElem!_eq_getElem?_getD]
def kCt (c:Ct):Int×Int:=(c.rd,c.au)
structure zwr (w0 w':World)(e:Ending)(sa:Option Addr)(ls:List Ct):Prop where
 below:Go.RowKit.Below w0.heap.size w0 w'
 out:e=.returned (.tuple #[])/\∃ks:List Ct,ks.Perm ls/\(∀i j (hi:i<j) (hj:j<ks.length),¬zeh (kCt (ks[j])) (kCt (ks[i]))<0)/\zba w' sa ks
theorem znQ [Inhabited Ct](b:List Ct)(g p B:Nat)(w0 w:World)(R:Go.RowKit.Below w0.heap.size w0 w)(M:w0.heap.size<=B)(hl:b.length<=1000)(s:w.ownsRow B 64 5 (.slice (some ⟨g,0,none⟩) b.length p) b.length (ctv b)) :
  Calls prog 203 #[.slice (some ⟨g,0,none⟩) b.length p,.func (.func 204) #[] #[]] w λe w'=>zwr w0 w' e (some ⟨g,0,none⟩) b:=by
 have r:=s.lt g rfl;have U:∀j,w.frozen? ⟨g,j,none⟩=false:=by
  intro j;rcases s.2 with⟨h,_⟩|⟨g',aa,ab,h,_,V,_⟩
  .cases h
  .cases h;exact zd V j
 have E:HoldsK Ct.cs 5 w g 0 b.toArray:=by
  intro j f;rw[zsD]at f|-;have q:j<(ctv b).length:=by simpa using f
  rw[Nat.zero_add];refine⟨?_,U j⟩;rw[World.ownsRow.cellAt s j (by rw[ze3]at q;exact q)];simp[q]
 have N:CmpLays prog 204 #[] Ct.cs 5 (λx y=>zeh (kCt x) (kCt y)) g 0 b.toArray.size w:=by
  intro m os dk ac x y;exact zqz x.au x.rd y.au y.rd _ _ _ _ _ _ _ _ _ _ _ _ _ _ _ _ _ _ _
 have H:=AnyQ.slices_SortFunc zuN 5 isAgg64 sizeOf64 Ct.cs (λ_=>rfl) (λx v I=>by simp[Ct.cs]at I;rcases I with rfl|rfl|rfl|rfl|rfl<;>rfl) (λx y=>zeh (kCt x) (kCt y)) (zuL.swo kCt) 204 #[] g 0 p b.toArray w (eO_ func204) N E r.2 (by simp;omega);have o:b.toArray.size=b.length:=by simp
 rw[o]at H;refine H.mono ?_;rintro e w'⟨rfl,d,n,os,G,Z,rfl⟩;have F:d.size=b.length:=by rw[G.1];exact o
 have Y:d.toList.Perm b:=by
  have D:=G.2.2;have J:d.extract 0 b.length=d:=by rw[<-F];simp
  have L:b.toArray.extract 0 b.length=b.toArray:=by rw[<-o];simp
  rw[J,L]at D
  simpa using D
 refine⟨znP _ _ _ _ _ _ _ R (nT_ M r.1),rfl,d.toList,Y,?_,?_⟩
 .intro i j X f;have l:j<d.size:=by simpa using f
  have h:=Z i j (nZ_ _) X (by omega);rw[getElem!_pos d j l,getElem!_pos d i (by omega)]at h;simp only[ltOf,decide_eq_false_iff_not]at h
  simpa using h
 .have O:=holdsK_sortWorldK_c Ct.cs 5 w g 0 b.toArray d n os E r.2 (by rw[F,o]);refine⟨.inr ⟨g,0,rfl,λj f=>?_⟩⟩
  .have l:j<d.size:=by simpa using f
   have c:=λc (T:c<5)=>(O.cell (i:=j) (c:=c) l T).1;have t:=c 0 (by omega);have u:=c 1 (by omega);have z:=c 2 (by omega);have A:=c 3 (by omega);have C:=c 4 (by omega);rw[getElem!_pos d j l]at t u z A C;simp only[Array.getElem_toList];exact⟨t,u,z,A,C⟩
theorem znR (b:List Ct)(g c B:Nat)(w0 w:World)(f:Go.RowKit.Below w0.heap.size w0 w)(d:w0.heap.size<=B)(j:b.length<=1000)(l:b≠[])(m:w.ownsRow B 64 5 (.slice (some ⟨g,0,none⟩) b.length c) b.length (ctv b)) :
  Calls prog 203 #[.slice (some ⟨g,0,none⟩) b.length c,.func (.func 204) #[] #[]] w λe w'=>zwr w0 w' e (some ⟨g,0,none⟩) b:=by
 obtain⟨o,p⟩:=List.exists_mem_of_ne_nil b l;exact @znQ ⟨o⟩ b g c B w0 w f d j m
variable {ra:Option Addr}{rc:Nat}
theorem zpt (x:Nat)(w:World)(h:x<4611686018427387904):Calls prog 227 #[.int .u64 (x:Int)] w λe w'=>(∃l:Int,e=.returned (I_ l))/\w=w':=by
 have b:=Any.bits_Len (SlLaysF0.n15.bits (P:=prog) (ρ:=zma) { zuN with }) (x:Int) w (by omega) (by omega);exact b.mono λe w' h=>⟨⟨_,h.1⟩,h.2.symm⟩
theorem zpu (c:Option Addr)(b g:Nat)(w:World):Calls prog 253 #[.slice c 0 b,I_ 0,I_ 0,.func (.func g) #[] #[]] w λe w'=>e=.returned (.tuple #[])/\w=w':=by
 go_in;go_wp2_with fail
 go_loop [8] (λi=>i=I_ 1) (λ_=>0)
 case atStart=>rfl
 case round=>
  subst hrel;go_wp2_with fail
  go_end0;exact⟨rfl,rfl⟩
theorem zuO (c:Option Addr)(b g:Nat)(l:Int)(w:World):Calls prog 230 #[.slice c 0 b,I_ 0,I_ 0,I_ l,.func (.func g) #[] #[]] w λe w'=>e=.returned (.tuple #[])/\w=w':=by
 go_in;go_wp2_with fail
 go_loop [1,2] (λi j=>i=I_ 0/\j=I_ 0) (λ_ _=>0)
 case atStart=>exact⟨rfl,rfl⟩
 case round=>
  obtain⟨rfl,rfl⟩:=hrel;go_wp2_with (go_at_call 253;refine(zpu _ _ _ _).mono ?_;rintro e w'⟨rfl,rfl⟩)
  (try simp only[Exit.inBlock,Exit.then]);refine bP_ (results_none rfl _ _ _) rfl ?_
  exact⟨rfl,rfl⟩
theorem zsE (c:Option Addr)(b g:Nat)(w:World):Calls prog 203 #[.slice c 0 b,.func (.func g) #[] #[]] w λe w'=>e=.returned (.tuple #[])/\w=w':=by
 go_in;go_wp2_with (first|(go_at_call 227;refine(zpt 0 _ (by decide)).mono ?_;rintro e w'⟨⟨l,rfl⟩,rfl⟩)|(go_at_call 230;refine(zuO _ _ _ _ _).mono ?_;rintro e w'⟨rfl,rfl⟩))
 go_end0;exact⟨rfl,rfl⟩
theorem zqC {b:Nat}(h:w.ownsRow B 64 5 (.slice (some ⟨b,0,none⟩) n cap) n (ctv ls)):zba w (some ⟨b,0,none⟩) ls:=by
 refine⟨.inr ⟨b,0,rfl,λj d=>?_⟩⟩;have c:∀t u,t<5->(ls[j]).cs[t]? = some u->w.cell? ⟨b,0+j*5+t,none⟩=some u:=λt u f g=>by
  have:=zps h (j*5+t) u (by rw[zfx ls j t d f];exact g);rw[zaP]at this;rw[Nat.add_assoc];exact this
 exact⟨c 0 _ (by decide) rfl,c 1 _ (by decide) rfl,c 2 _ (by decide) rfl,c 3 _ (by decide) rfl,c 4 _ (by decide) rfl⟩
theorem zll {s:Nat}(h:w.ownsRow B T s (.slice ra n rc) n xs):(ra=none/\n=0/\rc=0)\/∃b,ra=some ⟨b,0,none⟩:=by
 rcases h.2 with⟨e,_⟩|⟨g,c,d,e,_⟩
 .cases e;exact .inl ⟨rfl,rfl,rfl⟩
 .cases e;exact .inr ⟨g,rfl⟩
theorem zqD (b:List Ct)(c:Option Addr)(rc B:Nat)(w0 w:World)(d:B_ w0 w)(m:w0.heap.size<=B)(p:b.length<=1000)(f:w.ownsRow B 64 5 (.slice c b.length rc) b.length (ctv b)) :
  Calls prog 203 #[.slice c b.length rc,.func (.func 204) #[] #[]] w λe w'=>zwr w0 w' e c b:=by
 by_cases hn:b=[]
 .subst hn;refine(zsE c rc _ w).mono ?_;rintro e w'⟨rfl,rfl⟩;exact⟨d,rfl,[],List.Perm.refl _,λi j _ o=>absurd o (Nat.not_lt_zero _),⟨.inl rfl⟩⟩
 .rcases zll f with⟨_,l,_⟩|⟨g,rfl⟩
  .exact absurd (List.length_eq_zero_iff.1 l) hn
  .exact znR b g rc B w0 w d m p hn f
theorem zsF (b:Nat)(rd:Int)(g:Nat)(w:World)(j:w.cell? ⟨g,0,none⟩=some (I_ rd)) :
  Calls prog 201 #[.slice none 0 b,.func (.func 200) #[] #[P_ g 0]] w λe w'=>e=.returned (.slice none 0 b)/\B_ w w':=by
 have c:=zjt [] none 0 b rd g w rfl (by decide) ⟨.inl rfl⟩ j;have l:zaC (zdv [] rd) 0=-1:=rfl;go_in;go_wp2_with fail
 refine c.mono ?_;rintro _ m⟨rfl,d⟩;dsimp only;rw[show zaC (zdv [] rd) (List.length ([]:List Ct))=-1 from rfl];clear c l;go_wp2_with fail
 go_ret;exact⟨rfl,d⟩
structure zzH (w0 w':World)(e:Ending)(ra:Option Addr)(rc B:Nat)(kl:List Ct):Prop where
 out:e=.returned (.slice ra kl.length rc)
 own:w'.ownsRow B 64 5 (.slice ra kl.length rc) kl.length (ctv kl)
 below:B_ w0 w'
theorem zsG (c:List Ct)(j:Option Addr)(rc B:Nat)(rd:Int)(g:Nat)(w0 w:World)(s:c.length<=400)(f:B_ w0 w)(q:w0.heap.size<=B)(d:w.ownsRow B 64 5 (.slice j c.length rc) c.length (ctv c))(t:g<B)(l:w.cell? ⟨g,0,none⟩=some (I_ rd)) :
  Calls prog 201 #[.slice j c.length rc,.func (.func 200) #[] #[P_ g 0]] w λe w'=>zzH w0 w' e j rc B (c.filter (kpt rd)):=by
 rcases zll d with⟨rfl,m,rfl⟩|⟨b,rfl⟩
 .obtain rfl:c=[]:=List.length_eq_zero_iff.1 m;refine(zsF 0 rd g w l).mono ?_;rintro e w'⟨rfl,r⟩;exact⟨rfl,oN_ _ _ _ _,f.trans (r.mono f.size)⟩
 .refine(zqA c b rc B rd g w0 w s f q d (λe=>?_) l (zqC d)).mono ?_
  .have:=(d.lt b rfl).1;omega
  .rintro e w' ⟨rfl,o,p⟩;exact⟨rfl,o,p⟩
theorem zpv (c:List Ct)(q:Option Addr)(rc:Nat)(w:World)(o:c.length<=400)(l:w.ownsRow 0 64 5 (.slice q c.length rc) c.length (ctv c)) :
  Calls prog 202 #[.slice q c.length rc] w λe w'=>∃d f,e=.returned (.slice d c.length f)/\w'.ownsRow w.heap.size 64 5 (.slice d c.length f) c.length (ctv c)/\B_ w w':=by
 rcases zll l with⟨rfl,j,rfl⟩|⟨b,rfl⟩
 .obtain rfl:c=[]:=List.length_eq_zero_iff.1 j;have u:∀w:World,(binOp .eql 42 (O_) (O_)).run prog w=.ok (.bool true) w:=λ_=>rfl;clear l j o;go_in;go_wp2_with fail
  go_ret;exact⟨none,0,rfl,oN_ _ _ _ _,bR_ _ _⟩
 .refine(zqB c b rc w o l).mono ?_;rintro e w'⟨v,rfl,m,r⟩;obtain⟨d,f,rfl⟩:∃d f,v=.slice d c.length f:=by
   rcases m.2 with⟨e,p⟩|⟨g,s,t,e,_⟩
   .have j:c.length=0:=by first|exact p|exact p.1|omega
    exact⟨none,0,by rw[e,j]⟩
   .exact⟨_,_,e⟩
  exact⟨d,f,rfl,m,r⟩
theorem zuP (a b:CV):leC a b=true\/leC b a=true:=by
 unfold leC;simp only[decide_eq_true_eq];omega
theorem zuQ {a b c:CV}(d:leC a b=true)(f:leC b c=true):leC a c=true:=by
 unfold leC at*;simp only[decide_eq_true_eq]at*;omega
theorem zxM {a b:CV}(c:leC a b=true)(d:leC b a=true):a.rd=b.rd/\a.au=b.au:=by
 unfold leC at*;simp only[decide_eq_true_eq]at*;omega
theorem znw (x:CV)(l:List CV):(ziX x l).Perm (x::l):=by
 induction l with
 | nil=>exact List.Perm.refl _
 | cons y l ih=>
  unfold ziX
  split
  .exact List.Perm.refl _
  .exact(ih.cons y).trans (List.Perm.swap x y l)
theorem zsH (l:List CV):(zko l).Perm l:=by
 induction l with
 | nil=>exact List.Perm.refl _
 | cons x l ih=>exact(znw x _).trans (ih.cons x)
theorem zxN (x:CV)(l:List CV)(h:l.Pairwise (λa b=>leC a b=true)):(ziX x l).Pairwise (λa b=>leC a b=true):=by
 induction l with
 | nil=>exact List.pairwise_singleton _ _
 | cons y l ih=>
  obtain⟨d,f⟩:=List.pairwise_cons.1 h;unfold ziX
  split
  .rename_i g
   refine List.pairwise_cons.2 ⟨λz c=>?_,h⟩;rcases List.mem_cons.1 c with e|e
   .rw[e];exact g
   .exact zuQ g (d z e)
  .rename_i g
   refine List.pairwise_cons.2 ⟨λz c=>?_,ih f⟩;rcases List.mem_cons.1 ((znw x l).mem_iff.1 c)with e|e
   .rw[e];rcases zuP x y with q|q
    .exact absurd q g
    .exact q
   .exact d z e
theorem zws (l:List CV):(zko l).Pairwise (λa b=>leC a b=true):=by
 induction l with
 | nil=>exact List.Pairwise.nil
 | cons x l ih=>exact zxN x _ ih
theorem zsI:∀(a b:List CV),a.Perm b->a.Pairwise (λx y=>leC x y=true)->b.Pairwise (λx y=>leC x y=true)->(∀x∈a,∀y∈a,x.rd=y.rd->x.au=y.au->x=y)->a=b:=by
 intro a
 induction a with
 | nil=>intro b c _ _ _;exact(List.nil_perm.1 c).symm
 | cons x a ih=>
  intro b c r s d;cases b with
  | nil=>exact absurd c.length_eq (by simp)
  | cons y b=>
   obtain⟨m,o⟩:=List.pairwise_cons.1 r;obtain⟨g,j⟩:=List.pairwise_cons.1 s;have e:x=y:=by
    have C:=c.mem_iff.1 (List.mem_cons_self (a:=x) (l:=a));have f:=c.mem_iff.2 (List.mem_cons_self (a:=y) (l:=b));rcases List.mem_cons.1 C with q|q
    .exact q
    .rcases List.mem_cons.1 f with p|p
     .exact p.symm
     .obtain⟨A,B⟩:=zxM (m y p) (g x q);exact d x (List.mem_cons_self ..) y f A B
   subst e;rw[ih b (List.Perm.cons_inv c) o j (λu t v z=>d u (List.mem_cons_of_mem _ t) v (List.mem_cons_of_mem _ z))]
theorem zwt {l m:List CV}(b:m.Perm l)(d:m.Pairwise (λx y=>leC x y=true))(c:∀x∈l,∀y∈l,x.rd=y.rd->x.au=y.au->x=y):m=zko l:=
 zsI m _ (b.trans (zsH l).symm) d (zws l) (λx f y g=>c x (b.mem_iff.1 f) y (b.mem_iff.1 g))
theorem zpw {l:List CV}(h:zbV l=0){i j:Nat}(o:i<j)(p:j<l.length):¬((zaM l i).rd=(zaM l j).rd/\(zaM l i).au=(zaM l j).au):=λe=>by
 have c:=(zgw h).2 j p
 simp only[zgH,Bool.or_eq_false_iff,decide_eq_false_iff_not,Decidable.not_not]at c
 have b:=c.2
 unfold zfc at b
 have m:i<(l.take j).length:=by rw[lT9_];omega
 have q:¬0<=cOf (l.take j) (zaM l j).au (zaM l j).rd:=λg=>by
  rw[if_pos g]at b
  cases b
 have f:=zqP (zfp (l.take j) (zaM l j).au (zaM l j).rd) (l.take j).length (by unfold cOf at q;omega) i m
 have d:zaM (l.take j) i=zaM l i:=by simp[zaM,List.getD,o]
 simp[zfp,d,e.1,e.2]at f
theorem zqE {l:List CV}(h:zbV l=0):∀x∈l,∀y∈l,x.rd=y.rd->x.au=y.au->x=y:=by
 intro x o y p d f;obtain⟨i,g,rfl⟩:=List.getElem_of_mem o;obtain⟨j,m,rfl⟩:=List.getElem_of_mem p;have b:zaM l i=l[i]:=by simp[zaM,List.getD,g]
 have c:zaM l j=l[j]:=by simp[zaM,List.getD,m]
 rcases Nat.lt_trichotomy i j with q|q|q
 .exact absurd ⟨by rw[b,c];exact d,by rw[b,c];exact f⟩ (zpw h q m)
 .subst q;rfl
 .exact absurd ⟨by rw[b,c];exact d.symm,by rw[b,c];exact f.symm⟩ (zpw h q g)
variable {w':World}{U:Nat->Bool}{F o:Nat}{fc:Array Value}{x:NM}
theorem zre (b:List Ct)(rd:Int):zI (b.filter (kpt rd))=(zI b).filter (λc=>decide (rd<=c.rd)):=by
 unfold zI;rw[List.filter_map]
 congr 1
 refine List.filter_congr (λc _=>?_);simp only[kpt,Function.comp];by_cases h:c.v.rd<rd
 .rw[dT_ h,dF_ (by omega)];rfl
 .rw[dF_ h,dT_ (by omega)];rfl
theorem zwu {a b c d:Int}(g:¬zeh (a,b) (c,d)<0):c<a\/(c=a/\d<=b):=by
 have f:=zgn a c;have j:=zgn b d;rw[zpo,orF]at g;unfold orF at g;unfold orF at g
 split at g<;>(try split at g)<;>omega
theorem zzq {c:List Ct}(h:∀i j (f:i<j) (d:j<c.length),¬zeh (kCt (c[j])) (kCt (c[i]))<0):(zI c).Pairwise (λa b=>leC a b=true):=by
 unfold zI;rw[List.pairwise_map,List.pairwise_iff_getElem];intro i j f d l;have g:=h i j l d;generalize c[i]=a at*;generalize c[j]=b at*;unfold leC;refine dT_ ?_;show a.rd<b.rd\/(a.rd=b.rd/\a.au<=b.au);exact zwu g
theorem zuR {b:List Ct}(f:zbV (zI ls)=0)(g:b.Perm (ls.filter (kpt rd)))(l:∀i j (m:i<j) (o:j<b.length),¬zeh (kCt (b[j])) (kCt (b[i]))<0):zI (b.take 8)=zjU (zI ls) rd:=by
 rw[zvw,zjU,<-zre]
 congr 1
 refine zwt (g.map Ct.v) (zzq l) (λx c y d=>?_);rw[zre]at c d;exact zqE f x (List.mem_filter.1 c).1 y (List.mem_filter.1 d).1
theorem zba.hid {o:List Ct}(h:zba w ra o)(r:∀l m,ra=some ⟨l,m,none⟩->U l=false):zba (zq U w) ra o:=by
 refine⟨?_⟩;rcases h.cells with h|⟨l,m,e,h⟩
 .exact .inl h
 .refine .inr ⟨l,m,e,λj p=>?_⟩;have k:∀q v,w.cell? ⟨l,q,none⟩=some v->(zq U w).cell? ⟨l,q,none⟩=some v:=λq v g=>(cB_ (zdr (r l m e))).trans g;obtain⟨a,b,c,d,f⟩:=h j p;exact⟨k _ _ a,k _ _ b,k _ _ c,k _ _ d,k _ _ f⟩
theorem zsJ (h:zo w U F o T fc x){f:Option Addr}{B rc:Nat}{d:List Ct}(m:Below w.heap.size w w')(r:w.heap.size<=B)(y:∀b,ob f=some b->B<=b)(p:d.Perm (x.ls.filter (kpt rd)))(z:∀i j (C:i<j) (D:j<d.length),¬zeh (kCt (d[j])) (kCt (d[i]))<0)(s:zba w' f d){e:Ending}(t:e=.returned (.slice f (d.take 8).length rc)):zv2 w w' e U x rd:=by
 refine⟨f,rc,d.take 8,t,zuR h.inv.dag p z,(s.take 8).hid (λA E e=>h.bnd.new (nT_ r (y A (by rw[e];rfl)))),λc u=>?_,by rw[lT9_];omega,m⟩;have l:c∈x.ls:=(List.mem_filter.1 (p.mem_iff.1 (List.mem_of_mem_take u))).1;have q:c.v∈x.v.k.dag:=List.mem_map.2 ⟨c,l,rfl⟩;refine⟨(h.stk.ec c l).sub (zao.below U m).sub,znZ h.inv.dag c l,U8L.of (λb g=>h.inv.du8 c.v q b (List.mem_append.2 (.inl g))),U8L.of (λb g=>h.inv.du8 c.v q b (List.mem_append.2 (.inr g)))⟩
theorem znS:zhO:=by
 intro x rd w U F o T fc h;have al:∀(fn:Fn) (first ab:Array Value) (w:World),(Instr.makeFunc fn first ab).run prog w=.ok (.func fn first ab) w:=λ_ _ _ _=>rfl;obtain⟨z,A,da,dc,B⟩:=h.stkAt;have ae:w.ownsRow 0 64 5 (.slice z x.ls.length A) x.ls.length (ctv x.ls):=by
  have e:=h.stk.box;unfold R_ at e;rw[B.box]at e;simp only[Option.some.injEq,Obj.cells.injEq,and_true]at e;have e2:Value.slice z x.ls.length A=x.vc:=by
   have:=congrArg (λa:Array Value=>a[0]?) e
   simpa using this
  rw[e2];exact h.stk.rc
 have H:x.ls.length<=400:=B.at'.small;have d:=zC w (.cells #[I_ rd] 3);have O:=hN_ w (.cells #[I_ rd] 3);have C:Hid (w.heap.size<(w.alloc (.cells #[I_ rd] 3)).heap.size):=by show _<_;simp
 go_in;go_upto_region 2 with fail
 generalize w.alloc (.cells #[I_ rd] 3)=p at d O C|-;generalize hg:w.heap.size=g at O C|-;have HG:Hid (w.heap.size=g):=hg;clear hg;have h0:=h.below d;have c6:=h0.cell 6 _ rfl;have R:=zfz x.ls x.s z A da dc x.ds p (B.below d);have X:=zpv x.ls z A p H (zw ae d);have Z:Hid (x.ls.length<=400):=H;clear H ae B;go_wp2_with fail
 refine R.mono ?_;rintro _ w1⟨rfl,rfl⟩;dsimp only;clear R;go_wp2_with fail
 refine X.mono ?_;rintro e w2⟨t,f,l,ad,ac⟩;subst l;dsimp only;clear X;have ah:=zm d ac;have g2:w2.cell? ⟨g,0,none⟩=some (I_ rd):=zb ((ac.block _ C.out).trans O) 0 _ rfl;have V:=zsG x.ls t f p.heap.size rd g w w2 Z.out ah d.size ad C.out g2;clear c6 ad g2;go_wp2_with fail
 refine V.mono ?_;rintro _ w3⟨rfl,s,ai⟩;dsimp only;clear V;have Y:Hid ((x.ls.filter (kpt rd)).length<=400):=nT_ (List.length_filter_le _ _) Z.out;obtain⟨c,L⟩:∃c,c=x.ls.filter (kpt rd):=⟨_,rfl⟩;have ag:Hid (c=x.ls.filter (kpt rd)):=L;rw[<-L]at s Y|-;clear L;have HS:=zqD c t f p.heap.size w w3 ai d.size (nT_ Y.out (by decide)) s;have G:Hid (∀b,ob t=some b->p.heap.size<=b):=λb e=>(s.lt b (by rw[zdb];exact e)).1;have y:Hid (c.length<=f/\f<=9223372036854775807/\(f=0\/∃b,t=some ⟨b,0,none⟩)):=by
  show _/\_;rcases s.2 with⟨e,hn⟩|⟨g,aj,ak,e,_,_,h3,h4,_⟩
  .simp only[Value.slice.injEq]at e;exact⟨by omega,by omega,.inl e.2.2⟩
  .cases e;exact⟨h3,h4,.inr ⟨_,rfl⟩⟩
 clear s;go_wp2_with fail
 refine HS.mono ?_;rintro e w4⟨J,l,D,M,af,N⟩;subst l;dsimp only;clear HS;have E:Hid (D.Perm (x.ls.filter (kpt rd))):=by show _;rw[<-ag.out];exact M
 have aa:Hid (D.length=c.length):=M.length_eq;have m:Hid _:=af;clear M af;have am:=y.out.1;have an:=y.out.2.1;by_cases h8:8<=c.length
 .have u:Hid ((D.take 8).length=8):=by show _=_;rw[lT9_,aa.out];omega
  have m1:(8:Int)<=c.length:=by omega
  have m2:min (c.length:Int) 8=8:=by omega
  have m3:8<=f:=by omega
  have m4:¬((c.length:Int)<8):=by omega
  obtain⟨b,I⟩:∃b,t=some ⟨b,0,none⟩:=by
   rcases y.out.2.2 with e|e
   .omega
   .exact e
  subst I;go_wp2_with fail
  go_ret;exact zsJ (rc:=f) h J d.size G.out E.out (by first|exact m.out|exact λi j q r=>Int.not_lt.2 (m.out i j q r)) N (by rw[u.out];rfl)
 .have u:Hid ((D.take 8).length=c.length):=by show _=_;rw[lT9_,aa.out];omega
  have m1:(c.length:Int)<=8:=by omega
  have m2:min (c.length:Int) 8=c.length:=by omega
  have m4:(c.length:Int)<8:=by omega
  rcases y.out.2.2 with e|⟨b,I⟩
  .obtain hk0:c=[]:=List.length_eq_zero_iff.1 (by omega);subst hk0;subst e;go_wp2_with fail
   all_goals
    go_ret;exact zsJ (rc:=0) h J d.size G.out E.out (by first|exact m.out|exact λi j q r=>Int.not_lt.2 (m.out i j q r)) N (by rw[u.out];rfl)
  .subst I;go_wp2_with fail
   all_goals
    go_ret;exact zsJ (rc:=f) h J d.size G.out E.out (by first|exact m.out|exact λi j q r=>Int.not_lt.2 (m.out i j q r)) N (by rw[u.out];rfl)
variable {ops:Array Oper}{Q:Exit->Act->World->Prop}{a:Act}
theorem zsK {d:Addr}{cs:List AV}(y:zbq w (some d) cs):∀j u,(avs cs)[j]? = some u->w.cell? (d.add j)=some u:=by
 intro j u b;rcases y.cells with c|⟨B,l,e,c⟩
 .subst c;simp[avs]at b
 .cases e;have A:j<cs.length*4:=by
   rcases Nat.lt_or_ge j (cs.length*4)with g|g
   .exact g
   .rw[List.getElem?_eq_none (by rw[zg1];omega)]at b;cases b
  have f:j / 4<cs.length:=by omega
  have t:j=j / 4*4+j % 4:=by omega
  have s:j % 4<4:=by omega
  rw[zaP];obtain⟨m,o,p,r⟩:=c (j / 4) f;rw[t,zkr cs (j / 4) (j % 4) f s]at b;have z:l+j=l+j / 4*4+j % 4:=by omega
  rw[z];generalize j / 4=q at*;rcases(by omega:j % 4=0\/j % 4=1\/j % 4=2\/j % 4=3)with h|h|h|h<;>rw[h]at b|-<;>simp[AV.cs]at b<;>subst b
  .exact m
  .exact o
  .exact p
  .exact r
theorem zfB {rest:List Oper}{o:Oper}(q:o.guard=none)(s x:Operand)
  (t:o.op=.call { callee:=.builtin .append,args:=#[s,x],argTypes:=#[31,31] })
  (base:Nat) (v:Value) (n:Nat) (l:List AV) (u:a.eval s=v) (p:w.ownsRow base 40 4 v n (avs l)) (d:Option Addr) (m f:Nat) (b:List AV) (y:a.eval x=.slice d m f) (C:m=b.length) (g:zbq w d b) (D:d=none->m=0/\f=0)
  (H:n+m<=3000000000000) (B:base<=w.heap.size)
  (h:∀c w',w'.ownsRow base 40 4 c (n+m) (avs (l++b))->zV w v w' c->wpList prog ops Q rest (a.put o.dst c) w'):wpList prog ops Q (o::rest) a w:=by
 obtain⟨i,r,E,F,G⟩:=info_parts zwM;cases d with
 | none=>
  obtain⟨A,j⟩:=D rfl;subst A j;obtain rfl:b=[]:=eN_ C.symm;exact wpList_append_own_none q s x 31 t base 40 i 4 underlying31 r v n (avs l) u p y (h v w (by simpa using p) (zV.of (World.grownBy.refl _ _) (.inl rfl)))
 | some ad=>
  exact wpList_append_own_at w q s x 31 t base 40 i _ 4 40 underlying31 r E F G rfl (by decide) v n (avs l) u p ad m f (avs b) y (by rw[zg1];omega) (zsK g) (zxF b) (by unfold maxLen;omega) (by omega) B (λc w' z g _ j=>h c w' (by rw[zl5];exact z) (zV.of g j))
end Go.Proofs.YtdnaljbnebnlhaaGreatDoor
