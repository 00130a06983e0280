import Derived.Test.YtfikffhlfoidjaaGreatDoorPkTopLine0
set_option maxRecDepth 100000
set_option maxHeartbeats 4000000
namespace Go.Proofs.YtfikffhlfoidjaaGreatDoor
open Go.RowKit _root_.Go.Proofs.Tryz
variable {w:World}{n B:Nat}{xs:List Value}
def SB (B b:Nat)(l:List UInt8)(w:World):Prop:=Lib.IsBuilder 55 5 B b (Lib.byteCells l) w
structure zbS (B b:Nat)(l:List UInt8)(w w':World):Prop where
 is:SB B b l w'
 below:Below B w w'
 kept:Lib.OthersKept 5 (some b) w w'
theorem zDa:(prog.info? 55).map (·.size)=some 2:=by kernel_rfl
theorem zDb:liesAt prog prog.depth 55 (2 / prog.cellsOf 55) 0 55 1=true:=by kernel_rfl
theorem zBH {e:TypeId}{v:Value}(h:w.ownsRow B e 1 v n xs):∀g,v.ownBlock=some g->∃c b,w.heap[g]? = some (.cells c e b):=
 Lib.ownsRowF_kind (World.ownsRowF_of h)
theorem zA9 (B b:Nat)(l:List UInt8)(w:World)(h:SB B b l w) :
  Calls prog 49 #[P_ b 0] w λe w'=>e=.returned (.tuple #[])/\Lib.BuilderAt 55 5 B b (P_ b 0) (Lib.byteCells l) w'/\Below B w w'/\Lib.OthersKept 5 (some b) w w':=by
 obtain⟨j,c,m⟩:=Option.map_eq_some_iff.1 zDa;rcases h with h|h
 .have f:=h.cell0;have d:=h.shape;have q:=h.frozen0;have o:=h.used (P_ b 0);have g:=h.1;clear h;go_in;go_wp2_with fail
  rw[Lib.run_to_unsafe w (p_ b 0) underlying52 underlying151 c (by rw[m];decide) d (Nat.zero_lt_succ 1)];simp only[Result.andThen];rw[Oper.upon_value];go_wp2_with fail
  rw[run_callFunc_extern func73 (by kernel_rfl) (by kernel_rfl) (by kernel_rfl) (e:=Extern.AbiNoEscape.same) (by kernel_rfl),Lib.run_noEscape];simp only[Result.andThen];rw[Oper.upon_value];go_wp2_with fail
  rw[Lib.run_from_unsafe w (p_ b 0) underlying151 underlying52 c d zDb];simp only[Result.andThen];rw[Oper.upon_value];go_wp2_with fail
  go_end0;exact⟨rfl,o,(bR_ B w).setCell (p:=p_ b 0) g _,(Lib.OthersKept.refl _ _ w).setCell (p_ b 0) rfl _⟩
 have f:=h.cell0;go_in;go_wp2_with fail
 rw[Lib.run_neq_ptr_same w _ underlying52 c];go_wp2_with fail
 go_end0;exact⟨rfl,h,bR_ B _,Lib.OthersKept.refl _ _ _⟩
theorem za9 (B b:Nat)(l:List UInt8)(s:ByteArray)(w:World)(h:SB B b l w)(X:l.length+s.size<=140737488355328)(V:B<=w.heap.size) :
  Calls prog 26 #[P_ b 0,.string s] w λe w'=>e=.returned (.tuple #[I_ s.size,.nilIface])/\zbS B b (l++s.data.toList) w w':=by
 obtain⟨J,C,G,H,I⟩:=info_parts zek;go_in;go_wp2_with fail
 refine(zA9 B b l w h).mono ?_;rintro _ Z⟨rfl,z,t,E⟩;dsimp only;obtain⟨r,v,d,f,F⟩:=z;rw[Lib.byteCells_length]at f;have M:=zb d 0 _ rfl;have N:=zb d 1 _ rfl;have Y:=t.size;go_wp2_with (at_builtin;refine Lib.wpList_append_own_string _ rfl _ _ 53 9 rfl B 5 J underlying53 underlying9 C G H I _ _ _ rfl f s rfl (by unfold maxLen;omega) (by omega) (by omega) ?_)
 intro L w2 u m _;have c:=(m.block b (ze d) (λe=>F e.symm)).trans d;have T:=zb c 1 _ rfl;have R:=zb c 0 _ rfl;have U:=zd c 1;obtain⟨q,y,j,rfl⟩:∃q y j,L=.slice q y j:=by
  rcases u.2 with⟨o,_⟩|⟨g,j,O,o,_⟩;exact⟨_,_,_,o⟩;exact⟨_,_,_,o⟩
 go_wp2_with fail
 go_ret2;refine⟨rfl,.inr ?_,?_,(E.grown m (zBH f)).setCell (p_ b 1) rfl _⟩;refine Lib.BuilderAt.put r c ?_ (by decide);rw[Lib.byteCells_length,Lib.byteCells_append,lP_];exact u;exact(t.grown m (by omega) (λk D=>(f.lt k D).1)).setCell (p:=p_ b 1) r _
theorem zfg (B b:Nat)(l:List UInt8)(c:UInt8)(w:World)(h:SB B b l w)(ab:l.length+1<=140737488355328)(aa:B<=w.heap.size) :
  Calls prog 29 #[P_ b 0,.int .u8 (c.toNat:Int)] w λe w'=>e=.returned .nilIface/\zbS B b (l++[c]) w w':=by
 obtain⟨R,H,M,N,O⟩:=info_parts zek;obtain⟨x,r⟩:∃x:Int,(c.toNat:Int)=x:=⟨_,rfl⟩;have E:Hid (Lib.byteCells [c]=[.int .u8 x]):=by show _=_;rw[<-r];rfl
 rw[r];clear r;go_in;go_wp2_with fail
 refine(zA9 B b l w h).mono ?_;rintro _ D⟨rfl,F,y,J⟩;dsimp only;obtain⟨t,v,f,j,L⟩:=F;rw[Lib.byteCells_length]at j;have U:=zb f 0 _ rfl;have V:=zb f 1 _ rfl;have ad:=y.size;go_wp2_with (at_builtin;refine wpList_append_own _ rfl _ _ 53 rfl B 5 R (.int .u8 0) 1 1 underlying53 H M N O rfl (by decide) _ _ _ rfl (j.alloc _) (p_ D.heap.size 0) 1 1 [.int .u8 x] rfl rfl (zag D [.int .u8 x] 5) (by intro u A;simp at A;subst A;rfl) (by unfold maxLen;omega) (by omega) (by simp;omega) ?_)
 intro T w2 z o _;have ac:=ze f;have d:=(o.block b (by simp;omega) (λe=>L e.symm)).trans (zR f);have Z:=zb d 1 _ rfl;have Y:=zb d 0 _ rfl;have f1:=zd d 1;obtain⟨s,C,m,rfl⟩:∃s C m,T=.slice s C m:=by
  rcases z.2 with⟨q,_⟩|⟨g,m,X,q,_⟩;exact⟨_,_,_,q⟩;exact⟨_,_,_,q⟩
 go_wp2_with fail
 go_ret;refine⟨rfl,.inr ?_,?_,((J.alloc _).grown o (zBH (j.alloc _))).setCell (p_ b 1) rfl _⟩;refine Lib.BuilderAt.put t d ?_ (by decide);rw[Lib.byteCells_length,Lib.byteCells_append,lP_,E.out];exact z;exact((y.alloc (by omega) _).grown o (by simp;omega) (λk I=>(j.lt k I).1)).setCell (p:=p_ b 1) t _
variable {w' W:World}
def zAZ:String:=((Rows.topLineRow.laid.map (·.1))[2]?).getD default
abbrev zBr (w:World):Prop:=Lib.TabIs prog w zAZ .u64 Lib.pow10Tab
theorem zBr.below (h:zBr w)(b:B_ w w'):zBr w':=Lib.tabBelow_of_tabIs h w' b
theorem zDi:(prog.globals[2]?).map (·.type)=some 205:=by kernel_rfl
theorem zDj:prog.cellsOf 183=1:=by kernel_rfl
theorem zC5:prog.cellsOf 205=20:=by kernel_rfl
theorem zCI:Rows.laid_internal_strconv_uint64pow10 (H:=Unit)=Lib.tabData .u64 Lib.pow10Tab:=by rfl
theorem zDk:prog.globalNamed zAZ=some 2:=by kernel_rfl
theorem zCT {r:List (String×DataW Unit)}(h:laidMet prog ((zAZ,Rows.laid_internal_strconv_uint64pow10)::r) W):zBr W:=by
 rw[zCI]at h;exact Lib.tabIs_of_head zDk zDi underlying205 underlying183 zDj zC5 h
structure zBT (w:World):Prop where
 syn:∃te pe,w.cell? (p_ 5 0)=some (.iface te pe)
 rng:∃te pe,w.cell? (p_ 6 0)=some (.iface te pe)
theorem zBT.below (h:zBT w)(b:B_ w w'):zBT w':=by
 obtain⟨⟨j,f,c⟩,l,g,d⟩:=h;exact⟨⟨j,f,zr b c⟩,l,g,zr b d⟩
def zDc:String:=match(Rows.laid_strconv_ErrSyntax:DataW Unit)with|.iface n _=>n|_=>default
theorem zCu (u:TypeId)(h:prog.typeName? 3 u=some zDc):u=324:=
 typeName_ptr_named (nm:= "errors.errorString") (by kernel_rfl) (by kernel_rfl) (by decide) u (h.trans (cA_ some (by decide)))
theorem tES:(prog.globals[5]?).map (·.type)=some 92:=by kernel_rfl
theorem tER:(prog.globals[6]?).map (·.type)=some 92:=by kernel_rfl
theorem cES:prog.cellsOf 326=1:=by kernel_rfl
theorem zCU {f g:String}{r:List (String×DataW Unit)}(c:prog.globalNamed f=some 6)(d:prog.globalNamed g=some 5)
  (h:laidMet prog ((f,Rows.laid_strconv_ErrRange)::(g,Rows.laid_strconv_ErrSyntax)::r) W):zBT W:=by
 obtain⟨o,q,l,-,-,-⟩:=laid_sentinel h c tER underlying92 zCu underlying324 underlying326 rfl rfl underlying9 cES cS;obtain⟨m,p,j,-,-,-⟩:=laid_sentinel h.tail d tES underlying92 zCu underlying324 underlying326 rfl rfl underlying9 cES cS;exact⟨⟨_,_,by have b:=World.var?_cell d j 0;simpa using b⟩,⟨_,_,by have b:=World.var?_cell c l 0;simpa using b⟩⟩
structure zBO (w:World):Prop where
 k:zcw w
 p:zBr w
structure zzw (w:World):Prop where
 k:zcw w
 p:zBr w
 e:zBT w
theorem zzw.below (h:zzw w)(b:B_ w w'):zzw w':=⟨h.k.below b h.k.lt,h.p.below b,h.e.below b⟩
theorem zzw.s (h:zzw w):zBO w:=⟨h.k,h.p⟩
def zCV:DataW Unit->List UInt8
 | .iface _ (.ptr (.agg [.lit (.string s)]))=>s
 | _=>[]
def zCv (d:DataW Unit):Obj:=.cells #[.string ⟨(zCV d).toArray⟩] 326
noncomputable def lowB:Nat:=(World.holding prog default ⟨#[],#[],[]⟩).heap.size
theorem tabsL_of {u y b c d f g j:String}{l m:DataW Unit}(o:prog.globalNamed b=some 6)(p:prog.globalNamed c=some 5)(q:prog.globalNamed d=some 7)(r:prog.globalNamed f=some 8)(s:prog.globalNamed g=some 9)(t:prog.globalNamed j=some 0)
  (h:laidMet prog [(u,l),(y,m),(zAZ,Rows.laid_internal_strconv_uint64pow10),(b,Rows.laid_strconv_ErrRange),(c,Rows.laid_strconv_ErrSyntax),(d,Rows.laid_sheaves_blake_firstWords),(f,Rows.laid_sheaves_blake_orders),(g,Rows.laid_sheaves_blake_lanes),(j,Rows.laid_sheaves_lines_kinds)] W):(zcw W/\za2 W)/\zzw W:=
 have k:=zxP t h.tail.tail.tail.tail.tail.tail.tail.tail
 ⟨⟨k,zpF q r s h.tail.tail.tail.tail.tail⟩,⟨k,zCT h.tail.tail,zCU o p h.tail.tail.tail⟩⟩
noncomputable def layTl (os:Os):World:=
 let w:=layTp (World.holding prog os ⟨#[zCv Rows.laid_strconv_ErrRange,zCv Rows.laid_strconv_ErrSyntax],#[],[]⟩)
 { w with heap:=((((w.heap.modify 2 (zmb (zzs Rows.laid_internal_strconv_uint64pow10).toArray)).modify 3 (zmb (zzs Rows.laid_math_bits_deBruijn32tab).toArray)).modify 4 (zmb (zzs Rows.laid_math_bits_deBruijn64tab).toArray)).modify 6 (zmb #[.iface 324 (P_ lowB 0)])).modify 5 (zmb #[.iface 324 (P_ (lowB+1) 0)]) }
variable {T:TypeId}{w2 w1:World}{q:Nat}
def zBj (k n p:Int)(t:List UInt8):List UInt8:=
 zn2 k++(if hN k=true then 32::Lib.itoa n else [])++(if hP k=true then 32::Lib.itoa p else [])++(if hT k=true then 32::zfF t else [])++[10]
theorem zCj (w:World)(n:Nat)(os:Array Obj):B_ w (Sort.grow (w.drewN n) os):=
 ⟨rfl,rfl,rfl,by simp[Sort.grow],λk b=>by simp[Sort.grow,Array.getElem?_append_left b]⟩
theorem zpn (n:Int)(w:World)(b:-9223372036854775808<=n)(c:n<=9223372036854775807)(d:zBr w) :
  Calls prog 27 #[I_ n] w λe w'=>e=.returned (.string ⟨(Lib.itoa n).toArray⟩)/\B_ w w':=
 Calls.mono (Any.strconv_Itoa zCS n b c w d) (λe w' ⟨f,k,os,g⟩=>⟨f,by rw[g];exact zCj w k os⟩)
theorem zB7 (B b:Nat)(l:List UInt8)(w:World)(h:SB B b l w)(c:B<=w.heap.size) :
  Calls prog 14 #[P_ b 0] w λe w'=>e=.returned (.string ⟨l.toArray⟩)/\Below B w w':=
 Calls.mono (Any.Builder_String_any_k zC3 zBS B b l w (Lib.IsBuilderF.of h) c) (λ_ _ ⟨f,_,d,_⟩=>⟨f,d⟩)
theorem zBN {e:TypeId}{b:Option Nat}(h:B_ w w'):Lib.OthersKept e b w w':=
 λk _ c _ _=>(h.block k (ze c)).trans c
theorem SB.stays {b:Nat}{l:List UInt8}(h:SB B b l w)(d:B_ w w'):SB B b l w':=by
 rcases h with⟨f,v,c,g,j⟩|⟨f,v,c,g,j⟩;exact .inl ⟨f,v,(d.block b (ze c)).trans c,zw g d,j⟩;exact .inr ⟨f,v,(d.block b (ze c)).trans c,zw g d,j⟩
theorem zbS.refl {b:Nat}{l:List UInt8}(h:SB B b l w):zbS B b l w w:=⟨h,bR_ _ _,Lib.OthersKept.refl _ _ _⟩
theorem zbS.trans {b:Nat}{l l':List UInt8}(h:zbS B b l w w1)(k:zbS B b l' w1 w2):zbS B b l' w w2:=⟨k.is,h.below.trans k.below,h.kept.trans k.kept⟩
theorem zbS.more {b:Nat}{l:List UInt8}(h:zbS B b l w w1)(c:B<=w1.heap.size)(k:B_ w1 w2):zbS B b l w w2:=
 ⟨h.is.stays k,h.below.trans (k.mono c),h.kept.trans (zBN k)⟩
theorem zbS.row {b:Nat}{l:List UInt8}{cs:X_}(h:zbS B b l w w')(g:R_ w q cs T)(f:q≠b)(d:T≠5):R_ w' q cs T:=
 h.kept q _ g (λe=>f (Option.some.inj e)) (λc j e=>d (by cases e;rfl))
theorem zqT (l:List UInt8):(⟨l.toArray⟩:ByteArray).data.toList=l:=by simp
theorem zzO (l:List UInt8):(⟨l.toArray⟩:ByteArray).size=l.length:=by show l.toArray.size=_;simp
theorem zzT (l:List UInt8):((⟨#[32]⟩:ByteArray)++(⟨l.toArray⟩:ByteArray)).data.toList=32::l:=by rw[ByteArray.data_append];simp
theorem zdH (l:List UInt8):((⟨#[32]⟩:ByteArray)++(⟨l.toArray⟩:ByteArray)).size=1+l.length:=by
 show((⟨#[32]⟩:ByteArray)++(⟨l.toArray⟩:ByteArray)).data.size=_;rw[<-Array.length_toList,zzT,List.length_cons];omega
theorem zBU (k:Int):(zn2 k).length<=6:=by
 unfold zn2
 repeat' split
 all_goals decide
theorem SB.lt {b:Nat}{l:List UInt8}(h:SB B b l w):B<=b/\b<w.heap.size:=by
 rcases h with⟨c,v,d,_⟩|⟨c,v,d,_⟩;exact⟨c,ze d⟩;exact⟨c,ze d⟩
structure zBV (B:Nat)(w:World):Prop where
 k:zcw w
 p:Lib.TabBelow prog B w zAZ .u64 Lib.pow10Tab
 lt:0<B
theorem zBV.below (h:zBV B w)(b:Below B w w'):zBV B w':=⟨h.k.below b h.lt,h.p.on b,h.lt⟩
theorem zBO.tabB (h:zBO w):zBV w.heap.size w:=⟨h.k,Lib.tabBelow_of_tabIs h.p,h.k.lt⟩
theorem zB8 (B b:Nat)(l:List UInt8)(k n p:Int)(t:ByteArray)(w:World)(hS:SB B b l w)(hB:B<=w.heap.size)(hl:l.length<=70000000000000)(hk:1<=k/\k<=10)
  (aB:-9223372036854775808<=n) (aC:n<=9223372036854775807) (aD:-9223372036854775808<=p) (aE:p<=9223372036854775807) (ht:t.size<=4000) (hT:zBV B w) :
  Calls prog 13 #[P_ b 0,.agg #[I_ k,I_ n,I_ p,.string t]] w λe w'=>e=.returned (.tuple #[])/\zbS B b (l++zBj k n p t.data.toList) w w':=by
 obtain⟨j,rfl⟩:∃j:Nat,k=j:=⟨k.toNat,by omega⟩;have h1:1<=j:=by omega
 have d:j<=10:=by omega
 refine kA_ ?B0 ?_;exact #[I_ j,I_ n,I_ p,.string t];have hA:=hT.below ((bR_ B w).alloc hB (.cells ?B0 48));have c0:=hA.k.word j h1 d;have c1:=hA.k.node j h1 d;have c2:=hA.k.pick j h1 d;have c3:=hA.k.text j h1 d;have a5:=hT.lt;have HL:Hid (zBj j n p t.data.toList=zn2 j++(if hN j=true then 32::Lib.itoa n else [])++(if hP j=true then 32::Lib.itoa p else [])++(if Go.Proofs.YtfikffhlfoidjaaGreatDoor.hT j=true then 32::zfF t.data.toList else [])++[10]):=rfl;have zW:=zBU j;have zN:=Lib.itoa_length_le n aB aC;have zP:=Lib.itoa_length_le p aD aE;have zT:=zBo t.data.toList;rw[show t.data.toList.length=t.size from Array.length_toList]at zT;generalize zBj j n p t.data.toList=LL at*;generalize hN j=b0 at*;generalize hP j=b1 at*;generalize Go.Proofs.YtfikffhlfoidjaaGreatDoor.hT j=b2 at*;obtain⟨a4,a7⟩:=hS.lt;refine kW_ ?A0 ?_;exact(w.alloc (.cells #[I_ j,I_ n,I_ p,.string t] 48)).alloc (.cells #[.string ⟨(zn2 j).toArray⟩,.bool b0,.bool b1,.bool b2] 89);have aK:zbS B b l w ?A0:=
  ((zbS.refl hS).more hB ((bR_ _ _).alloc (nR_ _) _)).more (by simp;omega) ((bR_ _ _).alloc (nR_ _) _)
 have qA:(?A0).heap[w.heap.size]? = some (.cells ?B0 48 (0,0)):=zR (hN_ w _);have qK:(?A0).heap[w.heap.size+1]? = some (.cells #[.string ⟨(zn2 j).toArray⟩,.bool b0,.bool b1,.bool b2] 89 (0,0)):=zco _ _ _ (by simp);have aQ:=hT.below aK.below;have aS:=aK.below.size;have A:w.heap.size≠b:=by omega
 have C:w.heap.size+1≠b:=by omega
 clear hA;go_in;go_wp2_with fail
 generalize hW:(w.alloc (.cells ?B0 48)).alloc (.cells #[.string ⟨(zn2 j).toArray⟩,.bool b0,.bool b1,.bool b2] 89)=W0 at*;clear hW c0 c1 c2 c3;have X0:=aK;have aT:=qA;have aU:=qK;have s0:B<=W0.heap.size:=nT_ hB aS;clear aK qA qK aS;refine(za9 B b l _ W0 X0.is (by rw[zzO];omega) s0).mono ?_;rintro _ w1⟨rfl,h1⟩;dsimp only;rw[zqT]at h1;have O:=h1.row aT A (by decide);have T:=h1.row aU C (by decide);have L:=aQ.below h1.below;have E:=X0.trans h1;have H:B<=w1.heap.size:=nT_ s0 h1.below.size;have am:=zb O 1 _ rfl;have ao:=zb O 2 _ rfl;have aq:=zb O 3 _ rfl;have au:=zb T 1 _ rfl;have aw:=zb T 2 _ rfl;have ay:=zb T 3 _ rfl;clear aT aU aQ X0 s0 h1;cases b0<;>cases b1<;>cases b2
 all_goals go_wp2_with fail
 refine(zfg B b _ 10 w1 E.is (by simp;omega) H).mono ?_;rintro e w2⟨c,d⟩
 rotate_left
 refine(zAA t w1 (by omega)).mono ?_;rintro e w2⟨c,o⟩
 rotate_left
 refine(zpn p w1 aD aE L.p.here).mono ?_;rintro e w2⟨c,o⟩
 rotate_left
 refine(zpn p w1 aD aE L.p.here).mono ?_;rintro e w2⟨c,o⟩
 rotate_left
 refine(zpn n w1 aB aC L.p.here).mono ?_;rintro e w2⟨c,o⟩
 rotate_left
 refine(zpn n w1 aB aC L.p.here).mono ?_;rintro e w2⟨c,o⟩
 rotate_left
 refine(zpn n w1 aB aC L.p.here).mono ?_;rintro e w2⟨c,o⟩
 rotate_left
 refine(zpn n w1 aB aC L.p.here).mono ?_;rintro e w2⟨c,o⟩
 rotate_left
 all_goals
  subst c;dsimp only
 rotate_left
 iterate 7 (have d:=(zbS.refl E.is).more H o;clear o;have g:=d.row O A (by decide);have m:=d.row T C (by decide);have M:=L.below d.below;rotate_left)
 all_goals have y:=E.trans d
 rotate_left
 iterate 7 (have z:B<=w2.heap.size:=nT_ H d.below.size;have Z:=zb g 1 _ rfl;have aa:=zb g 2 _ rfl;have ab:=zb g 3 _ rfl;have ac:=zb m 1 _ rfl;have ad:=zb m 2 _ rfl;have ae:=zb m 3 _ rfl;clear O T L E H d am ao aq au aw ay;go_wp2_with fail;refine(za9 B b _ _ w2 y.is (by rw[zdH];simp;omega) z).mono ?_;rintro _ N⟨rfl,f⟩;dsimp only;rw[zzT]at f;have q:=f.row g A (by decide);have r:=f.row m C (by decide);have V:=M.below f.below;have D:=y.trans f;have J:B<=N.heap.size:=nT_ z f.below.size;have ag:=zb q 1 _ rfl;have ah:=zb q 2 _ rfl;have ai:=zb q 3 _ rfl;have aj:=zb r 1 _ rfl;have ak:=zb r 2 _ rfl;have al:=zb r 3 _ rfl;clear g m M y z f Z aa ab ac ad ae;go_wp2_with fail;rotate_left)
 rotate_left
 refine(zfg B b _ 10 N D.is (by simp;omega) J).mono ?_;rintro _ Y⟨rfl,s⟩;dsimp only;have I:=D.trans s
 rotate_left
 refine(zfg B b _ 10 N D.is (by simp;omega) J).mono ?_;rintro _ Y⟨rfl,s⟩;dsimp only;have I:=D.trans s
 rotate_left
 refine(zAA t N (by omega)).mono ?_;rintro _ Y⟨rfl,o⟩;dsimp only;have s:=(zbS.refl D.is).more J o;clear o;have F:=s.row q A (by decide);have G:=s.row r C (by decide);have af:=V.below s.below;have I:=D.trans s;have X:B<=Y.heap.size:=nT_ J s.below.size;have an:=zb F 1 _ rfl;have ap:=zb F 2 _ rfl;have ar:=zb F 3 _ rfl;have av:=zb G 1 _ rfl;have ax:=zb G 2 _ rfl;have az:=zb G 3 _ rfl;clear q r V D J s ag ah ai aj ak al;go_wp2_with fail
 refine(za9 B b _ _ Y I.is (by rw[zdH];simp;omega) X).mono ?_;rintro _ w5⟨rfl,u⟩;dsimp only;rw[zzT]at u;have R:=u.row F A (by decide);have U:=u.row G C (by decide);have aA:=af.below u.below;have X5:=I.trans u;have s5:B<=w5.heap.size:=nT_ X u.below.size;have aH:=zb R 1 _ rfl;have aI:=zb R 2 _ rfl;have aJ:=zb R 3 _ rfl;have aL:=zb U 1 _ rfl;have aM:=zb U 2 _ rfl;have aN:=zb U 3 _ rfl;clear F G af I X u an ap ar av ax az;go_wp2_with fail
 refine(zfg B b _ 10 w5 X5.is (by simp;omega) s5).mono ?_;rintro _ w6⟨rfl,h6⟩;dsimp only;have X6:=X5.trans h6
 rotate_left
 refine(zfg B b _ 10 N D.is (by simp;omega) J).mono ?_;rintro _ Y⟨rfl,s⟩;dsimp only;have I:=D.trans s
 rotate_left
 refine(zAA t N (by omega)).mono ?_;rintro _ Y⟨rfl,o⟩;dsimp only;have s:=(zbS.refl D.is).more J o;clear o;have F:=s.row q A (by decide);have G:=s.row r C (by decide);have af:=V.below s.below;have I:=D.trans s;have X:B<=Y.heap.size:=nT_ J s.below.size;have an:=zb F 1 _ rfl;have ap:=zb F 2 _ rfl;have ar:=zb F 3 _ rfl;have av:=zb G 1 _ rfl;have ax:=zb G 2 _ rfl;have az:=zb G 3 _ rfl;clear q r V D J s ag ah ai aj ak al;go_wp2_with fail
 refine(za9 B b _ _ Y I.is (by rw[zdH];simp;omega) X).mono ?_;rintro _ w5⟨rfl,u⟩;dsimp only;rw[zzT]at u;have R:=u.row F A (by decide);have U:=u.row G C (by decide);have aA:=af.below u.below;have X5:=I.trans u;have s5:B<=w5.heap.size:=nT_ X u.below.size;have aH:=zb R 1 _ rfl;have aI:=zb R 2 _ rfl;have aJ:=zb R 3 _ rfl;have aL:=zb U 1 _ rfl;have aM:=zb U 2 _ rfl;have aN:=zb U 3 _ rfl;clear F G af I X u an ap ar av ax az;go_wp2_with fail
 refine(zfg B b _ 10 w5 X5.is (by simp;omega) s5).mono ?_;rintro _ w6⟨rfl,h6⟩;dsimp only;have X6:=X5.trans h6
 rotate_left
 refine(zpn p N aD aE V.p.here).mono ?_;rintro _ Y⟨rfl,o⟩;dsimp only;have s:=(zbS.refl D.is).more J o;clear o;have F:=s.row q A (by decide);have G:=s.row r C (by decide);have af:=V.below s.below;have I:=D.trans s;have X:B<=Y.heap.size:=nT_ J s.below.size;have an:=zb F 1 _ rfl;have ap:=zb F 2 _ rfl;have ar:=zb F 3 _ rfl;have av:=zb G 1 _ rfl;have ax:=zb G 2 _ rfl;have az:=zb G 3 _ rfl;clear q r V D J s ag ah ai aj ak al;go_wp2_with fail
 refine(za9 B b _ _ Y I.is (by rw[zdH];simp;omega) X).mono ?_;rintro _ w5⟨rfl,u⟩;dsimp only;rw[zzT]at u;have R:=u.row F A (by decide);have U:=u.row G C (by decide);have aA:=af.below u.below;have X5:=I.trans u;have s5:B<=w5.heap.size:=nT_ X u.below.size;have aH:=zb R 1 _ rfl;have aI:=zb R 2 _ rfl;have aJ:=zb R 3 _ rfl;have aL:=zb U 1 _ rfl;have aM:=zb U 2 _ rfl;have aN:=zb U 3 _ rfl;clear F G af I X u an ap ar av ax az;go_wp2_with fail
 refine(zfg B b _ 10 w5 X5.is (by simp;omega) s5).mono ?_;rintro _ w6⟨rfl,h6⟩;dsimp only;have X6:=X5.trans h6
 rotate_left
 refine(zpn p N aD aE V.p.here).mono ?_;rintro _ Y⟨rfl,o⟩;dsimp only;have s:=(zbS.refl D.is).more J o;clear o;have F:=s.row q A (by decide);have G:=s.row r C (by decide);have af:=V.below s.below;have I:=D.trans s;have X:B<=Y.heap.size:=nT_ J s.below.size;have an:=zb F 1 _ rfl;have ap:=zb F 2 _ rfl;have ar:=zb F 3 _ rfl;have av:=zb G 1 _ rfl;have ax:=zb G 2 _ rfl;have az:=zb G 3 _ rfl;clear q r V D J s ag ah ai aj ak al;go_wp2_with fail
 refine(za9 B b _ _ Y I.is (by rw[zdH];simp;omega) X).mono ?_;rintro _ w5⟨rfl,u⟩;dsimp only;rw[zzT]at u;have R:=u.row F A (by decide);have U:=u.row G C (by decide);have aA:=af.below u.below;have X5:=I.trans u;have s5:B<=w5.heap.size:=nT_ X u.below.size;have aH:=zb R 1 _ rfl;have aI:=zb R 2 _ rfl;have aJ:=zb R 3 _ rfl;have aL:=zb U 1 _ rfl;have aM:=zb U 2 _ rfl;have aN:=zb U 3 _ rfl;clear F G af I X u an ap ar av ax az;go_wp2_with fail
 refine(zAA t w5 (by omega)).mono ?_;rintro _ w6⟨rfl,o⟩;dsimp only;have h6:=(zbS.refl X5.is).more s5 o;clear o;have aF:=h6.row R A (by decide);have aG:=h6.row U C (by decide);have aR:=aA.below h6.below;have X6:=X5.trans h6;have s6:B<=w6.heap.size:=nT_ s5 h6.below.size;have aV:=zb aF 1 _ rfl;have aW:=zb aF 2 _ rfl;have aX:=zb aF 3 _ rfl;have aY:=zb aG 1 _ rfl;have aZ:=zb aG 2 _ rfl;have a0:=zb aG 3 _ rfl;clear R U aA X5 s5 h6 aH aI aJ aL aM aN;go_wp2_with fail
 refine(za9 B b _ _ w6 X6.is (by rw[zdH];simp;omega) s6).mono ?_;rintro _ w7⟨rfl,h7⟩;dsimp only;rw[zzT]at h7;have aO:=h7.row aF A (by decide);have aP:=h7.row aG C (by decide);have a6:=aR.below h7.below;have X7:=X6.trans h7;have s7:B<=w7.heap.size:=nT_ s6 h7.below.size;have a1:=zb aO 1 _ rfl;have a2:=zb aO 2 _ rfl;have a3:=zb aO 3 _ rfl;have a8:=zb aP 1 _ rfl;have a9:=zb aP 2 _ rfl;have ba:=zb aP 3 _ rfl;clear aF aG aR X6 s6 h7 aV aW aX aY aZ a0;go_wp2_with fail
 refine(zfg B b _ 10 w7 X7.is (by simp;omega) s7).mono ?_;rintro _ w8⟨rfl,h8⟩;dsimp only;have X8:=X7.trans h8
 rotate_left
 all_goals
  go_wp2_with fail
  go_end0;refine⟨rfl,?_⟩;rw[HL.out]
 simpa using y
 simpa using I
 simpa using I
 simpa using X6
 simpa using I
 simpa using X6
 simpa using X6
 simpa using X8
def zBe (l:List UInt8):Int:=match Lib.atoiAll l with|.ok v=>if 0<=v/\Lib.itoa v=l then v else -1|_=>-1
def zd6 (l:List UInt8):Bool:=decide (0<=zBe l)
def zlJ (l:List UInt8):Int:=if zd6 l=true then zBe l else 0
theorem zA3 {a a':Int}{b b':Bool}(c:a'=a)(d:b'=b):Ending.returned (.tuple #[I_ a,.bool b])=.returned (.tuple #[I_ a',.bool b']):=by rw[c,d]
theorem zBp (s:ByteArray)(l:List UInt8):((⟨l.toArray⟩:ByteArray).toList == s.toList)=decide (l=s.data.toList):=by
 rw[ByteArray.toList_eq,ByteArray.toList_eq];by_cases h:l=s.data.toList;simp[h];simp[h]
theorem zA0 (s:ByteArray)(w:World)(hs:s.size<=140737488355328)(hT:zzw w) :
  Calls prog 79 #[.string s] w λe w'=>e=.returned (.tuple #[I_ (zlJ s.data.toList),.bool (zd6 s.data.toList)])/\B_ w w':=by
 rcases hA:Lib.atoiAll s.data.toList with v|_|_
 .obtain⟨b1,b2⟩:=Lib.atoiAll_bounds hA;have HC:Calls prog 108 #[.string s] w λe w'=>e=.returned (.tuple #[I_ v,.nilIface])/\B_ w w':=
   Calls.mono (Any.strconv_Atoi_ok zBB s (by omega) v hA w) (λe w' ⟨he,hw⟩=>⟨he,by rcases hw with rfl|⟨t,rfl⟩;exact bR_ _ _;exact Lib.bytesWorld_below _ _ _⟩)
  by_cases hv:0<=v;have hvI:¬v<0:=by omega
  have hq:=zBp s (Lib.itoa v);have H1:Hid (zd6 s.data.toList=decide (Lib.itoa v=s.data.toList)):=by
   show _=_;unfold zd6 zBe;rw[hA];by_cases h:Lib.itoa v=s.data.toList;simp[h,hv];simp[h]
  have H2:Hid (Lib.itoa v=s.data.toList->zlJ s.data.toList=v):=by
   show _->_;intro h;unfold zlJ;rw[H1.out,iP_ (by simp[h])];unfold zBe;rw[hA];simp[h,hv]
  rotate_left
  have hvI:v<0:=by omega
  have H3:Hid (zd6 s.data.toList=false):=by
   show _=_;unfold zd6 zBe;rw[hA];simp[hv]
  have H4:Hid (zlJ s.data.toList=0):=by show _=_;unfold zlJ;rw[H3.out];simp
  rotate_left
  all_goals
   clear hA;go_in;go_wp2_with fail
   refine HC.mono ?_;rintro _ w1⟨rfl,hb1⟩;dsimp only
  .have HI:=zpn v w1 b1 b2 (hT.below hb1).p;by_cases h:Lib.itoa v=s.data.toList;have hqb:((⟨(Lib.itoa v).toArray⟩:ByteArray).toList == s.toList)=true:=by rw[hq];simp[h]
   have H3:Hid (zd6 s.data.toList=true):=by show _=_;rw[H1.out];simp[h]
   have H4:Hid (zlJ s.data.toList=v):=H2.out h
   rotate_left
   have hqb:((⟨(Lib.itoa v).toArray⟩:ByteArray).toList == s.toList)=false:=by rw[hq];simp[h]
   have H3:Hid (zd6 s.data.toList=false):=by show _=_;rw[H1.out];simp[h]
   have H4:Hid (zlJ s.data.toList=0):=by show _=_;unfold zlJ;rw[H3.out];simp
   rotate_left
   all_goals
    clear H1 H2 h hq;generalize (⟨(Lib.itoa v).toArray⟩:ByteArray)=y at*;go_wp2_with fail
    refine HI.mono ?_;rintro _ w2⟨rfl,hb2⟩;dsimp only;go_wp2_with fail
    go_ret2;exact⟨zA3 H4.out H3.out,hb1.trans (hb2.mono hb1.size)⟩
  go_wp2_with fail
  go_ret2;exact⟨zA3 H4.out H3.out,hb1⟩
 all_goals
  have H3:Hid (zd6 s.data.toList=false):=by
   show _=_;unfold zd6 zBe;rw[hA]
   simp
  have H4:Hid (zlJ s.data.toList=0):=by show _=_;unfold zlJ;rw[H3.out];simp
  obtain⟨⟨t1,p1,e1⟩,⟨t2,p2,e2⟩⟩:=hT.e;have HC:Calls prog 108 #[.string s] w λe w'=>∃(v:Int) (T:TypeId) (N:Addr),e=.returned (.tuple #[I_ v,.iface T (.pointer (some N))])/\B_ w w':=by
   first
   | exact Calls.mono (Any.strconv_Atoi_syntax zBB s (by omega) hA (.iface t1 p1) w e1 (.inr ⟨_,_,rfl⟩)) (λe w' ⟨N,he,_,_,hb⟩=>⟨_,_,_,he,hb⟩)
   | exact Calls.mono (Any.strconv_Atoi_range zBB s (by omega) hA (.iface t2 p2) w e2 (.inr ⟨_,_,rfl⟩)) (λe w' ⟨N,he,_,_,hb⟩=>⟨_,_,_,he,hb⟩)
  clear hA e1 e2;go_in;go_wp2_with fail
  refine HC.mono ?_;rintro e w1⟨v,T,N,he,hb1⟩;subst he;dsimp only;go_wp2_with fail
  go_ret2;exact⟨zA3 H4.out H3.out,hb1⟩
def zfV (l:List UInt8):Nat->Int
 | 0=>0
 | n+1=>if zfV l n≠0 then zfV l n else if zn2 ((n+1:Nat):Int)=l then((n+1:Nat):Int)else 0
def zaI (l:List UInt8):Int:=zfV l 10
def zAS (l:List UInt8)(n:Nat):Prop:=∀k:Nat,1<=k->k<n->zn2 (k:Int)≠l
theorem zAV {l:List UInt8}:∀n:Nat,zAS l (n+1)->zfV l n=0
 | 0,_=>rfl
 | n+1,h=>by
  rw[zfV,zAV n (λk a b=>h k a (by omega)),iN_ (by simp),iN_ (h (n+1) (by omega) (by omega))]
theorem zBq {l:List UInt8}{m:Nat}(h:zfV l m≠0):∀n,m<=n->zfV l n=zfV l m
 | 0,hn=>by
  obtain rfl:m=0:=by omega
  rfl
 | n+1,hn=>by
  by_cases e:m=n+1
  .rw[e]
  .have:=zBq h n (by omega)
   rw[zfV,this,iP_ h]
theorem zCw {l:List UInt8}(d:1<=n)(b:n<=10)(c:zAS l n)(h:zn2 (n:Int)=l):zaI l=n:=by
 obtain⟨m,rfl⟩:∃m,n=m+1:=⟨n-1,by omega⟩;have e:zfV l (m+1)=((m+1:Nat):Int):=by
  rw[zfV,zAV m c,iN_ (by simp),iP_ h]
 rw[zaI,zBq (m:=m+1) (by rw[e];omega) 10 b,e]
theorem zCk {l:List UInt8}(b:zAS l 11):zaI l=0:=zAV 10 b
theorem zBa (l:List UInt8):∀n:Nat,zfV l n=0\/(1<=zfV l n/\zfV l n<=n/\zn2 (zfV l n)=l)
 | 0=>.inl rfl
 | n+1=>by
  rw[zfV]
  rcases zBa l n with h|⟨b,f,c⟩
  .rw[h,iN_ (by simp)]
   split
   .rename_i d
    exact .inr ⟨by omega,by omega,d⟩
   .exact .inl rfl
  .rw[iP_ (by omega)]
   exact .inr ⟨b,by omega,c⟩
theorem zBW (l:List UInt8):zaI l=0\/(1<=zaI l/\zaI l<=10/\zn2 (zaI l)=l):=zBa l 10
theorem zCl (k:Int)(h:1<=k/\k<=10):zaI (zn2 k)=k:=by
 have b:k=1\/k=2\/k=3\/k=4\/k=5\/k=6\/k=7\/k=8\/k=9\/k=10:=by omega
 rcases b with rfl|rfl|rfl|rfl|rfl|rfl|rfl|rfl|rfl|rfl<;>decide +kernel
theorem zCm (s:ByteArray)(w:World)(j:zcw w) :
  Calls prog 52 #[.string s] w λe w'=>e=.returned (I_ (zaI s.data.toList))/\w=w':=by
 go_in;go_wp2_with fail
 go_loop [3] (λi=>∃n:Nat,1<=n/\n<=11/\i=I_ n/\Hid (zAS s.data.toList n)) (λi=>11-(intOf i).toNat)
 case atStart=>exact⟨1,by omega,by omega,rfl,by show zAS _ _;intro k a b;omega⟩
 case round=>
  obtain⟨n,g,p,rfl,f⟩:=hrel;by_cases hlt:n<=10
  .have q:(n:Int)<=10:=by omega
   have o:=j.word n g hlt;have c:=zBp s (zn2 n);by_cases h:zn2 (n:Int)=s.data.toList;have d:Hid (zaI s.data.toList=n):=zCw g hlt f.out h;have m:((⟨(zn2 n).toArray⟩:ByteArray).toList == s.toList)=true:=by rw[c];simp[h]
   rotate_left
   have l:Hid (zAS s.data.toList (n+1)):=by
    show zAS _ _;intro k a b;by_cases hk:k=n;subst hk;exact h;exact f.out k a (by omega)
   have m:((⟨(zn2 n).toArray⟩:ByteArray).toList == s.toList)=false:=by rw[c];simp[h]
   rotate_left
   all_goals
    clear h c;generalize (⟨(zn2 n).toArray⟩:ByteArray)=y at*;go_wp2_with fail
   .go_ret;exact⟨zt d.out.symm,rfl⟩
   go_round
   case rel=>exact⟨n+1,by omega,by omega,by go_num,l⟩
   case measure=>simp[intOf];omega
  obtain rfl:n=11:=by omega
  have d:Hid (zaI s.data.toList=0):=zCk f.out;go_wp2_with fail
  go_ret;exact⟨zt d.out.symm,rfl⟩
variable {k:Nat}
def zCJ:List UInt8:=[48,49,50,51,52,53,54,55,56,57,97,98,99,100,101,102]
def hxv (c:UInt8):Int:=Lib.indexByte zCJ c
theorem zBw (c:UInt8):-1<=hxv c/\hxv c<16:=by
 unfold hxv;rcases zAT c zCJ with⟨h,_⟩|⟨o,h,b,_⟩;omega;have:zCJ.length=16:=rfl;omega
def zdV:List UInt8->Option (List UInt8)
 | []=>some []
 | [_]=>none
 | a::b::l=>if hxv a<0\/hxv b<0 then none else(zdV l).map λr=>UInt8.ofNat (16*(hxv a).toNat+(hxv b).toNat)::r
theorem zBf:∀l:List UInt8,l.length % 2≠0->zdV l=none
 | [],h=>by simp at h
 | [_],_=>rfl
 | a::b::l,h=>by
  have:=zBf l (by simp at h|-;omega)
  rw[zdV,this]
  split<;>rfl
def zAB (l:List UInt8):Bool:=(zdV l).isSome
def zzY (l:List UInt8):List UInt8:=(zdV l).getD []
theorem zCK {l:List UInt8}(h:k+1<l.length):l.drop k=l[k]::l[k+1]::l.drop (k+2):=by
 rw[List.drop_eq_getElem_cons (by omega),List.drop_eq_getElem_cons h]
theorem zCW (h l:Int)(c:0<=h/\h<16)(f:0<=l/\l<16):bits .or .i64 (h*16) l=h*16+l:=by
 obtain⟨a,rfl⟩:=Int.eq_ofNat_of_zero_le c.1;obtain⟨b,rfl⟩:=Int.eq_ofNat_of_zero_le f.1;have d:∀a:Fin 16,∀b:Fin 16,bits .or .i64 (((a:Nat):Int)*16) ((b:Nat):Int)=((a:Nat):Int)*16+((b:Nat):Int):=by decide +kernel
 exact d ⟨a,by omega⟩ ⟨b,by omega⟩
theorem zBk {a a':List UInt8}{b b':Bool}(c:a'=a)(d:b'=b):Ending.returned (.tuple #[.string ⟨a.toArray⟩,.bool b])=.returned (.tuple #[.string ⟨a'.toArray⟩,.bool b']):=by rw[c,d]
theorem zBX (s:ByteArray)(w:World)(hs:s.size<=140737488355328) :
  Calls prog 80 #[.string s] w λe w'=>e=.returned (.tuple #[.string ⟨(zzY s.data.toList).toArray⟩,.bool (zAB s.data.toList)])/\B_ w w':=by
 have z:s.data.toList.length=s.size:=Array.length_toList;by_cases hodd:s.size % 2=0
 .obtain⟨i,R,Z,aa,ab⟩:=info_parts zek;obtain⟨m,U⟩:∃m,s.size=2*m:=⟨s.size / 2,by omega⟩;have M:(s.size:Int) % 2=0:=by omega
  have hq:(s.size:Int) / 2=m:=by omega
  have af:∃C:X_,(Instr.makeSlice 53 (I_ 0) (I_ (m:Int))).run prog w=.ok (.slice (some (p_ w.heap.size 0)) 0 m) (w.alloc (.cells C 5))/\(w.alloc (.cells C 5)).ownsRow w.heap.size 5 1 (.slice (some (p_ w.heap.size 0)) 0 m) 0 []:=by
   refine⟨madeCells (Value.int .u8 0).cells (m*1),?_,?_⟩;have h:=run_make (P:=prog) w 53 5 i (.int .u8 0) underlying53 R Z .i64 .i64 0 (m:Int) (by omega) (by omega) (by rw[ab];omega) (by omega)
   simpa[aa]using h
   refine⟨rfl,.inr ⟨w.heap.size,m,_,rfl,nR_ _,hN_ _ _,by omega,by unfold maxLen;omega,size_madeCells _ _,by simp⟩⟩
  obtain⟨C,ag,V⟩:=af;have B:Hid (s.size=2*m):=U;have an:m<=70368744177664:=by omega
  clear U hodd;go_in;go_wp2_with fail
  have L:=zC w (.cells C 5);generalize w.alloc (.cells C 5)=W0 at*;clear M hq;go_loopw [5,4] (λj v wr=>∃(k:Nat) (d:List UInt8),k<=m/\j=I_ (2*(k:Int))/\Hid (d.length=k)/\B_ w wr/\wr.ownsRow w.heap.size 5 1 v k (ub (n8 d))/\Hid (zdV s.data.toList=(zdV (s.data.toList.drop (2*k))).map λr=>d++r)) (λj _ _=>s.size-(intOf j).toNat)
  case atStart=>exact⟨0,[],nZ_ _,rfl,rfl,L,V,by show _=_;simp⟩
  case round=>
   clear ag V L;obtain⟨k,d,hk,rfl,ai,l,D,o⟩:=hrel;by_cases hlt:k<m
   .have aj:2*k<s.size:=by have:=B.out;omega
    have X:2*k+1<s.size:=by have:=B.out;omega
    have l1:(2*(k:Int))<s.size:=by omega
    have l2:(2*(k:Int))+1<s.size:=by omega
    have ap:∀w:World,(Instr.index 9 (.string s) (I_ (2*(k:Int)))).run prog w=.ok (.int .u8 (s[2*k].toNat:Int)) w:=by
     intro w;have e:s[2*k]? = some s[2*k]:=getElem?_pos s (2*k) aj;have F:(2*(k:Int)).toNat=2*k:=by omega
     have G:(0:Int)<=2*(k:Int):=by omega
     simp[Instr.index,asIntOf,e,F,G]
    have aq:∀w:World,(Instr.index 9 (.string s) (I_ (2*(k:Int)+1))).run prog w=.ok (.int .u8 (s[2*k+1].toNat:Int)) w:=by
     intro w;have e:s[2*k+1]? = some s[2*k+1]:=getElem?_pos s (2*k+1) X;have F:(2*(k:Int)+1).toNat=2*k+1:=by omega
     have G:(0:Int)<=2*(k:Int)+1:=by omega
     simp[Instr.index,asIntOf,e,F,G]
    have O:s.data.toList.drop (2*k)=s[2*k]::s[2*k+1]::s.data.toList.drop (2*k+2):=zCK (by rw[z];exact X);rw[O]at o;have E:=zAY ⟨#[48,49,50,51,52,53,54,55,56,57,97,98,99,100,101,102]⟩ s[2*k] wr;have I:=λW=>zAY ⟨#[48,49,50,51,52,53,54,55,56,57,97,98,99,100,101,102]⟩ s[2*k+1] W;rw[show Lib.indexByte (⟨#[48,49,50,51,52,53,54,55,56,57,97,98,99,100,101,102]⟩:ByteArray).data.toList s[2*k]=hxv s[2*k]from rfl]at E;have J:∀W,Calls prog 109 #[.string ⟨#[48,49,50,51,52,53,54,55,56,57,97,98,99,100,101,102]⟩,.int .u8 (s[2*k+1].toNat:Int)] W λe w'=>e=.returned (I_ (hxv s[2*k+1]))/\W=w':=I;clear I O;have b1:=zBw s[2*k];have b2:=zBw s[2*k+1];generalize s[2*k]=u at*;generalize s[2*k+1]=y at*;have A:Hid (zdV (u::y::s.data.toList.drop (2*k+2))=if hxv u<0\/hxv y<0 then none else(zdV (s.data.toList.drop (2*k+2))).map λr=>UInt8.ofNat (16*(hxv u).toNat+(hxv y).toNat)::r):=by show _=_;rw[zdV]
    generalize hxv u=b at*;generalize hxv y=c at*;generalize (u.toNat:Int)=na at*;generalize (y.toNat:Int)=nb at*;go_wp2_with fail
    refine E.mono ?_;rintro _ w1⟨rfl,rfl⟩;dsimp only;go_wp2_with fail
    refine(J _).mono ?_;rintro _ w1⟨rfl,rfl⟩;dsimp only;clear E J;by_cases hbad:b<0\/c<0
    .have f:Hid (zdV s.data.toList=none):=by show _=_;rw[o.out,A.out,iP_ hbad];rfl
     have p:Hid (zzY s.data.toList=[]):=by show _=_;rw[zzY,f.out];rfl
     have t:Hid (zAB s.data.toList=false):=by show _=_;rw[zAB,f.out];rfl
     clear o A f;rcases Int.lt_or_le b 0 with g|g
     rotate_left
     have g2:c<0:=by omega
     rotate_left
     all_goals
      go_wp2_with fail
      go_ret2;exact⟨zBk p.out t.out,l⟩
    have g1:¬b<0:=by omega
    have g2:¬c<0:=by omega
    have ao:=zCW b c (by omega) (by omega);have ak:Hid (zdV s.data.toList=(zdV (s.data.toList.drop (2*(k+1)))).map λr=>(d++[UInt8.ofNat (16*b.toNat+c.toNat)])++r):=by
     show _=_;rw[o.out,A.out,iN_ hbad,Option.map_map,show 2*(k+1)=2*k+2 by omega]
     congr 1
     funext r
     simp
    have N:IntKind.u8.wrap (b*16+c)=b*16+c:=by
     simp only[IntKind.wrap,IntKind.signed,IntKind.bits]
     simp
     omega
    have ad:Hid (n8 [UInt8.ofNat (16*b.toNat+c.toNat)]=[b*16+c]):=by
     show _=_;simp[n8];omega
    clear o A hbad;generalize UInt8.ofNat (16*b.toNat+c.toNat)=cc at*;generalize b*16+c=xc at*;go_wp2_with (at_builtin;refine wpList_append_own_at _ rfl _ _ 53 rfl w.heap.size 5 i (.int .u8 0) 1 1 underlying53 R Z aa ab rfl (by decide) _ k _ rfl (oA_ D _) (p_ wr.heap.size 0) 1 1 [.int .u8 xc] rfl rfl (zag _ _ _) (zds [_]) (by unfold maxLen;omega) (by omega) (zB l.size _) ?_)
    intro v' w2 ah ae _ _;go_wp2_with fail
    go_roundw
    case rel=>
     refine⟨k+1,d++[cc],by omega,by go_num,by show _=_;rw[lP_,ai.out];rfl,Below.grown (l.alloc l.size _) ae (zB l.size _) (λq e=>(D.lt q e).1),?_,ak⟩;rw[zBF,ad.out]
     simpa[ub]using ah
    case measure=>simp[intOf];omega
   obtain rfl:k=m:=by omega
   have am:¬(2*(k:Int))<s.size:=by have:=B.out;omega
   have f:Hid (zdV s.data.toList=some d):=by
    show _=_;rw[o.out,List.drop_of_length_le (by rw[z,B.out];omega)];simp[zdV]
   have p:Hid (zzY s.data.toList=d):=by show _=_;rw[zzY,f.out];rfl
   have t:Hid (zAB s.data.toList=true):=by show _=_;rw[zAB,f.out];rfl
   clear o f;obtain⟨al,ac,hv,T,Y⟩:=zeG D;subst hv;have N:=zd8 wr al k ac _ T Y;rw[zCd]at N;clear T Y D;go_wp2_with fail
   go_ret2;exact⟨zBk p.out t.out,l⟩
 have M:¬(s.size:Int) % 2=0:=by omega
 have p:Hid (zzY s.data.toList=[]):=by show _=_;rw[zzY,zBf _ (by rw[z];omega)];rfl
 have t:Hid (zAB s.data.toList=false):=by show _=_;rw[zAB,zBf _ (by rw[z];omega)];rfl
 clear hodd z;go_in;go_wp2_with fail
 go_ret2;exact⟨zBk p.out t.out,bR_ _ _⟩
theorem Upd.of_below {A:Nat}{o:Obj}(h:w.heap[A]? = some o)(b:B_ w w'):Upd A o w w':=
 ⟨b.os,b.tape,b.output,b.size,λk c _=>b.block k c,(b.block A (ze h)).trans h⟩
theorem zCx (A:Nat)(k n p:Int)(t s:ByteArray)(w:World)(m:s.size<=140737488355328)(d:R_ w A #[I_ k,I_ n,I_ p,.string t] 48)(f:zzw w) :
  Calls prog 53 #[P_ A 0,I_ 0,.string s] w λe w'=>e=.returned (.bool (zd6 s.data.toList))/\Upd A (.cells #[I_ k,I_ (zlJ s.data.toList),I_ p,.string t] 48 (0,0)) w w':=by
 have c:=zA0 s w m f;generalize zlJ s.data.toList=o at*;generalize zd6 s.data.toList=y at*;go_in;go_wp2_with fail
 refine c.mono ?_;rintro _ z⟨rfl,j⟩;dsimp only;have b:=Upd.of_below d j;have q:=b.here;have r:=zb q 1 _ rfl;have u:=zd q 1;have g:=b.setCell 1 (I_ o);go_wp2_with fail
 go_ret;exact⟨rfl,g⟩
theorem zCy (A:Nat)(k n p:Int)(t s:ByteArray)(w:World)(m:s.size<=140737488355328)(d:R_ w A #[I_ k,I_ n,I_ p,.string t] 48)(f:zzw w) :
  Calls prog 53 #[P_ A 0,I_ 1,.string s] w λe w'=>e=.returned (.bool (zd6 s.data.toList))/\Upd A (.cells #[I_ k,I_ n,I_ (zlJ s.data.toList),.string t] 48 (0,0)) w w':=by
 have c:=zA0 s w m f;generalize zlJ s.data.toList=o at*;generalize zd6 s.data.toList=y at*;go_in;go_wp2_with fail
 refine c.mono ?_;rintro _ z⟨rfl,j⟩;dsimp only;have b:=Upd.of_below d j;have q:=b.here;have r:=zb q 2 _ rfl;have u:=zd q 2;have g:=b.setCell 2 (I_ o);go_wp2_with fail
 go_ret;exact⟨rfl,g⟩
theorem zCz (A:Nat)(k n p:Int)(t s:ByteArray)(w:World)(l:s.size<=140737488355328)(d:R_ w A #[I_ k,I_ n,I_ p,.string t] 48) :
  Calls prog 53 #[P_ A 0,I_ 2,.string s] w λe w'=>e=.returned (.bool (zAB s.data.toList))/\Upd A (.cells #[I_ k,I_ n,I_ p,.string ⟨(zzY s.data.toList).toArray⟩] 48 (0,0)) w w':=by
 have c:=zBX s w l;generalize (⟨(zzY s.data.toList).toArray⟩:ByteArray)=m at*;generalize zAB s.data.toList=u at*;go_in;go_wp2_with fail
 refine c.mono ?_;rintro _ y⟨rfl,g⟩;dsimp only;have b:=Upd.of_below d g;have q:=b.here;have o:=zb q 3 _ rfl;have r:=zd q 3;have f:=b.setCell 3 (.string m);go_wp2_with fail
 go_ret;exact⟨rfl,f⟩
variable {p:Int}
def AV.line (a:AV):List UInt8:=zBj a.k a.n a.p a.t.data.toList
def fb (l:List AV):Nat:=(l.takeWhile λa=>decide (a.e=0)).length
theorem zCQ:∀(l:List AV) (k:Nat),(∀a∈l.take k,a.e=0)->k<l.length->(l.getD k .z).e≠0->fb l=k
 | [],_,_,h,_=>by simp at h
 | a::l,0,_,_,h2=>by
  have:a.e≠0:=by simpa using h2
  simp[fb,this]
 | a::l,k+1,h,h1,h2=>by
  have b:a.e=0:=h a (by simp)
  have:=zCQ l k (λx c=>h x (by simp[c])) (by simpa using h1) (by simpa using h2)
  unfold fb at this|-
  simp[b,this]
theorem zCA (l:List AV)(h:∀a∈l,a.e=0):fb l=l.length:=by
 induction l with
 | nil=>rfl
 | cons a l ih=>
  have:=ih (λx b=>h x (by simp[b]));unfold fb at this|-;simp[h a (by simp),this]
def zAL (l:List AV):Int:=if 3000<l.length then 1 else if fb l<l.length then(l.getD (fb l) .z).e else 0
def zAM (l:List AV):Int:=if 3000<l.length then 0 else if fb l<l.length then(fb l:Int)else 0
def zAN (l:List AV):List UInt8:=if 3000<l.length then []else if fb l<l.length then []else l.flatMap AV.line
theorem zAU {a:AV}(h:a.e=0):(1<=a.k/\a.k<=10)/\(0<=a.n/\a.n<4)/\(0<=a.p/\a.p<=400000)/\a.t.size<=4000/\zja a.k a.n a.p a.t.size=false:=by
 unfold AV.e zeS at h
 split at h
 omega
 split at h
 omega
 split at h
 omega
 split at h
 omega
 split at h
 omega
 rename_i b
 exact⟨by omega,by omega,by omega,by omega,eq_false_of_ne_true b⟩
theorem zCL {a:AV}(h:a.e=0):a.line.length<=9000:=by
 obtain⟨_,b,c,d,_⟩:=zAU h;have zW:=zBU a.k;have zN:=Lib.itoa_length_le a.n (by omega) (by omega);have zP:=Lib.itoa_length_le a.p (by omega) (by omega);have zT:=zBo a.t.data.toList;rw[show a.t.data.toList.length=a.t.size from Array.length_toList]at zT;unfold AV.line zBj;simp only[lP_,List.length_cons,List.length_nil]
 split<;>split<;>split<;>simp only[List.length_cons,List.length_nil]<;>omega
theorem zBI (l:List AV)(h:∀a∈l,a.e=0):(l.flatMap AV.line).length<=9000*l.length:=by
 induction l with
 | nil=>simp
 | cons a l ih=>
  have c:=zCL (h a (by simp));have d:=ih (λx b=>h x (by simp[b]));simp only[List.flatMap_cons,lP_,List.length_cons];omega
theorem zCX {l:List AV}(h:k<l.length):l.take (k+1)=l.take k++[l.getD k .z]:=by
 rw[tS_ h];simp[List.getD,h]
theorem zBs {a a':List UInt8}{c e b:Int}(d:a'=a)(f:c=p)(g:b=e):Ending.returned (.tuple #[.string ⟨a.toArray⟩,I_ p,I_ e])=.returned (.tuple #[.string ⟨a'.toArray⟩,I_ c,I_ b]):=by rw[d,f,g]
theorem zCM (l:List AV)(sa:Q_)(n ae:Nat)(w:World)(hn:n=l.length)(hm:n<=maxLen)(q:zbq w sa l)(T:zBO w) :
  Calls prog 6 #[.slice sa n ae] w λe w'=>e=.returned (.tuple #[.string ⟨(zAN l).toArray⟩,I_ (zAM l),I_ (zAL l)])/\B_ w w':=by
 unfold maxLen at hm;by_cases hbig:3000<n
 .have o:Hid (zAL l=1):=by show _=_;simp[zAL];omega
  have HP:Hid (zAM l=0):=by show _=_;simp[zAM];omega
  have HS:Hid (zAN l=[]):=by show _=_;simp[zAN];omega
  have ai:(3000:Int)<n:=by omega
  clear q T hn;go_in;go_wp2_with fail
  go_ret3;exact⟨zBs HS.out HP.out o.out,bR_ _ _⟩
 have ai:¬(3000:Int)<n:=by omega
 subst hn;refine kO_ ?A0 ?_;exact Obj.cells #[.pointer none,O_] 55;have R:SB w.heap.size w.heap.size [] (w.alloc ?A0):=Lib.fresh_isBuilder 55 5 w;have O:=zC w ?A0;have ah:=T.tabB;go_in;go_wp2_with fail
 generalize w.alloc ?A0=W0 at*;go_loopw [14] (λj wr=>∃k:Nat,k<=l.length/\j=I_ k/\B_ w wr/\SB w.heap.size w.heap.size ((l.take k).flatMap AV.line) wr/\Hid (∀a∈l.take k,a.e=0)) (λj _=>l.length-(intOf j).toNat)
 case atStart=>exact⟨0,nZ_ _,rfl,O,R,by show ∀_,_;simp⟩
 case round=>
  clear O R;obtain⟨k,hk,rfl,m,F,A⟩:=hrel;by_cases hlt:k<l.length
  .have al:(k:Int)<l.length:=by omega
   rcases(q.below m).cells with z|⟨sb,so,rfl,z⟩;subst z;simp at hlt;obtain⟨J,L,M,N⟩:=z k hlt;have ab:=q.text (l.getD k .z) (by rw[List.getD_eq_getElem?_getD,List.getElem?_eq_getElem hlt];exact gM_ hlt);have I:Hid (l.take (k+1)=l.take k++[l.getD k .z]):=zCX hlt;have HF:Hid ((l.getD k .z).e≠0->fb l=k):=zCQ l k A.out hlt;have af:((l.take k).flatMap AV.line).length<=70000000000000:=by
    have t:=zBI (l.take k) A.out;have u:(l.take k).length<=k:=List.length_take_le _ _;omega
   have HAt:Hid (zbq w (some (p_ sb so)) l):=q;clear z q;have V:=ah.below m;generalize Y:(l.take k).flatMap AV.line=s at*;have ac:Hid _:=Y;clear Y;generalize aa:l.getD k .z=a at*;have ad:Hid _:=aa;clear aa;obtain⟨b,c,d,f⟩:=a;dsimp only at J L M N ab;go_wp2_with fail
   refine kO_ ?B0 ?_;exact Obj.cells #[I_ b,I_ c,I_ d,.string f] 48;have U:=V.below ((bR_ w.heap.size wr).alloc m.size ?B0);have G:zbS w.heap.size w.heap.size s wr (wr.alloc ?B0):=(zbS.refl F).more m.size ((bR_ _ _).alloc (nR_ _) _);have qA:=hN_ wr ?B0;have am:=F.lt;refine(zj8 b c d f _ ab U.k).mono ?_;rintro _ w1⟨rfl,y⟩;dsimp only;have B:=zk y qA;have H:=G.more (nT_ m.size G.below.size) y;have ag:=V.below H.below;have a0:=zb B 0 _ rfl;have a1:=zb B 1 _ rfl;have a2:=zb B 2 _ rfl;have a3:=zb B 3 _ rfl;have D:=m.trans H.below;have o:Hid ((⟨b,c,d,f⟩:AV).e=zeS b c d f.size):=rfl;generalize zeS b c d f.size=E at*;clear G qA U J L M N;by_cases hE:E=0
   .subst hE;obtain⟨o1,o2,o3,o4,_⟩:=zAU o.out;dsimp only at o1 o2 o3 o4;go_wp2_with fail
    refine(zB8 w.heap.size w.heap.size s b c d f w1 H.is D.size af o1 (by omega) (by omega) (by omega) (by omega) o4 ag).mono ?_;rintro _ w2⟨rfl,X⟩;dsimp only;go_wp2_with fail
    go_roundw
    case rel=>
     refine⟨k+1,by omega,by go_num,D.trans X.below,?_,?_⟩;rw[I.out,List.flatMap_append,ac.out]
     simpa[AV.line]using X.is
     show ∀_,_;rw[I.out];intro x hx;rcases mA_.1 hx with g|g;exact A.out x g
     simp at g;subst g;exact o.out
    case measure=>simp[intOf];omega
   have aj:(E != 0)=true:=by simp[hE]
   have p:=HF.out (by rw[o.out];exact hE);have t:Hid (zAL l=E):=by show _=_;rw[zAL,iN_ (by omega),p,iP_ hlt,ad.out,o.out]
   have u:Hid (zAM l=k):=by show _=_;rw[zAM,iN_ (by omega),p,iP_ hlt]
   have C:Hid (zAN l=[]):=by show _=_;rw[zAN,iN_ (by omega),p,iP_ hlt]
   clear p;go_wp2_with fail
   go_ret3;exact⟨zBs C.out u.out t.out,D⟩
  obtain rfl:k=l.length:=by omega
  have Z:∀a∈l,a.e=0:=by
   have:=A.out
   rwa [tL_ (nR_ _)]at this
  have p:=zCA l Z;have t:Hid (zAL l=0):=by show _=_;rw[zAL,iN_ (by omega),iN_ (by omega)]
  have u:Hid (zAM l=0):=by show _=_;rw[zAM,iN_ (by omega),iN_ (by omega)]
  have C:Hid (zAN l=(l.take l.length).flatMap AV.line):=by show _=_;rw[zAN,iN_ (by omega),iN_ (by omega),tL_ (nR_ _)]
  clear p Z;generalize (l.take l.length).flatMap AV.line=s at*;go_wp2_with fail
  refine(zB7 w.heap.size w.heap.size s wr F m.size).mono ?_;rintro _ w1⟨rfl,y⟩;dsimp only;go_wp2_with fail
  go_ret3;exact⟨zBs C.out u.out t.out,m.trans y⟩
variable {ops:Array Oper}{Q:Exit->Act->World->Prop}{a:Act}{K:Act->World->Prop}{E:Prop}
theorem zj5 {fn:Func}{p q:Tmp}{ty:TypeId}(h:fn.results=#[.cell p ty,.tmp q])(b:X_)(w:World)(g:Nat)(t:TypeId)(cs:X_)(c:Nat×Nat)(d:TypeDesc)(v:Value)
  (f:b.getD p undef=(P_ g 0)/\b.getD q undef=v) (l:w.heap[g]? = some (.cells cs t c))
  (s:prog.underlying ty=some d) (j:(match d with|.struct _|.array _ _=>true|_=>false)=true) (m:(prog.info? ty).map (·.size)=some cs.size) :
  (results fn b).run prog w=.ok (.tuple #[.agg cs,v]) w:=by
 have o:b[p]?.getD undef=(P_ g 0):=by simpa using f.1
 have r:b[q]?.getD undef=v:=by simpa using f.2
 simp[results,h,o,r,asAddr,run_loadVar_row w g t ty cs c d l s (by cases d<;>first|exact j|rfl) m]
theorem zAJ:(prog.info? 48).map (·.size)=some 4:=by kernel_rfl
theorem zBC {o:Oper}
  (l:o.guard=none) (j:o.dst=none) (ty:TypeId) (x y:Operand) (q:o.op=.store ty x y) (g:Nat) (b:X_) (s:a.eval x=(P_ g 0)) (u:a.eval y=.agg b)
  (t:TypeId) (c:X_) (m:w.heap[g]? = some (.cells c t (0,0))) (p:(prog.info? ty).map (·.size)=some b.size) (r:c.size=b.size) (d:b.all (·.oneCell')=true) (f:K a (w.setRow g b)) :
  if Region.wanted o (yielded ops a.tmps)=true then Oper.wp prog o a w K Q else E:=by
 rw[iP_ (by simp[Region.wanted,l])];exact wp_store_row ty x y q g b s u t c m p r d (by rw[j];exact f)
structure StL where
 r:List UInt8
 m:Bool
 n:Int
 p:Int
 t:List UInt8
 b0:Bool
 b1:Bool
 b2:Bool
def st1 (k:Int)(s:StL):StL:=if hN k=true/\s.m=true then⟨afC 32 s.r,zdc 32 s.r,zlJ (bfC 32 s.r),s.p,s.t,zd6 (bfC 32 s.r),s.b1,s.b2⟩else s
def st2 (k:Int)(s:StL):StL:=if hP k=true/\s.m=true then⟨afC 32 s.r,zdc 32 s.r,s.n,zlJ (bfC 32 s.r),s.t,s.b0,zd6 (bfC 32 s.r),s.b2⟩else s
def st3 (k:Int)(s:StL):StL:=if hT k=true/\s.m=true then⟨afC 32 s.r,zdc 32 s.r,s.n,s.p,zzY (bfC 32 s.r),s.b0,s.b1,zAB (bfC 32 s.r)⟩else s
def stJ (k:Int)(l:List UInt8):Nat->StL
 | 0=>⟨afC 32 l,zdc 32 l,0,0,[],false,false,false⟩
 | 1=>st1 k ⟨afC 32 l,zdc 32 l,0,0,[],false,false,false⟩
 | 2=>st2 k (st1 k ⟨afC 32 l,zdc 32 l,0,0,[],false,false,false⟩)
 | _=>st3 k (st2 k (st1 k ⟨afC 32 l,zdc 32 l,0,0,[],false,false,false⟩))
theorem zCn (k:Int)(l:List UInt8):stJ k l 1=st1 k (stJ k l 0):=rfl
theorem zCo (k:Int)(l:List UInt8):stJ k l 2=st2 k (stJ k l 1):=rfl
theorem zCp (k:Int)(l:List UInt8):stJ k l 3=st3 k (stJ k l 2):=rfl
theorem zBg (c:UInt8)(l:List UInt8):(bfC c l).length<=l.length:=(List.takeWhile_prefix _).length_le
theorem zBh (c:UInt8)(l:List UInt8):(afC c l).length<=l.length:=by
 unfold afC;rw[List.length_drop];have:=(List.dropWhile_suffix (p:=λb=>b != c) (l:=l)).length_le;omega
theorem zCB (k:Int)(l:List UInt8):∀j,(stJ k l j).r.length<=l.length:=by
 have b:(stJ k l 0).r.length<=l.length:=zBh 32 l;have c:(stJ k l 1).r.length<=l.length:=by
  rw[zCn,st1]
  split
  exact nT_ (zBh _ _) b;exact b
 have d:(stJ k l 2).r.length<=l.length:=by
  rw[zCo,st2]
  split
  exact nT_ (zBh _ _) c;exact c
 have f:(stJ k l 3).r.length<=l.length:=by
  rw[zCp,st3]
  split
  exact nT_ (zBh _ _) d;exact d
 intro j
 match j with
 | 0=>exact b
 | 1=>exact c
 | 2=>exact d
 | n+3=>exact f
def rdB (l:List UInt8):Bool:=decide (zaI (bfC 32 l)≠0)&&((stJ (zaI (bfC 32 l)) l 3).b0 == hN (zaI (bfC 32 l))&&(stJ (zaI (bfC 32 l)) l 3).b1 == hP (zaI (bfC 32 l))&&(stJ (zaI (bfC 32 l)) l 3).b2 == hT (zaI (bfC 32 l)))&&!(stJ (zaI (bfC 32 l)) l 3).m
def rdV (l:List UInt8):AV:=⟨zaI (bfC 32 l),(stJ (zaI (bfC 32 l)) l 3).n,(stJ (zaI (bfC 32 l)) l 3).p,⟨(stJ (zaI (bfC 32 l)) l 3).t.toArray⟩⟩
theorem eq3 (b c d f g j:Bool)(w:World):(binOp .eql 87 (.agg #[.bool b,.bool c,.bool d]) (.agg #[.bool f,.bool g,.bool j])).run prog w=.ok (.bool (b == f&&c == g&&d == j)) w:=by
 cases b<;>cases c<;>cases d<;>cases f<;>cases g<;>cases j<;>kernel_rfl
theorem Upd.keep {b c:Nat}{o x:Obj}(h:Upd b o w w')(d:w.heap[c]? = some x)(f:c≠b):w'.heap[c]? = some x:=(h.block c (ze d) f).trans d
theorem Upd.low {b:Nat}{o:Obj}{a:World}(k:Upd b o w w')(h:Below B a w)(c:B<=w.heap.size)(d:B<=b):Below B a w':=k.below h c d
theorem zB9 (s:ByteArray)(w:World)(hs:s.size<=140737488355328)(X:zzw w) :
  Calls prog 31 #[.string s] w λe w'=>(∃a:AV,e=.returned (.tuple #[.agg #[I_ a.k,I_ a.n,I_ a.p,.string a.t],.bool (rdB s.data.toList)])/\(rdB s.data.toList=true->a=rdV s.data.toList))/\B_ w w':=by
 have aB:s.data.toList.length=s.size:=Array.length_toList;have aC:∀l:List UInt8,l.length<=s.size->(⟨l.toArray⟩:ByteArray).size<=maxLen:=λl h=>by rw[zzO];unfold maxLen;omega
 refine kA_ ?A0 ?_;exact #[I_ 0,I_ 0,I_ 0,.string ⟨#[]⟩];have hZ:=zC w (.cells ?A0 48);have o:=hN_ w (.cells ?A0 48);have HC:=zAQ s 32 (w.alloc (.cells ?A0 48)) (by unfold maxLen;omega);generalize hl:s.data.toList=l at*;clear hl;go_in;go_wp2_with fail
 refine HC.mono ?_;rintro _ f⟨rfl,ay⟩;dsimp only;have N:=zm hZ ay;have q1:=zk ay o;clear HC ay hZ o;have HK:=zCm ⟨(bfC 32 l).toArray⟩ f (X.below N).k;rw[zqT]at HK;have a5:=zBW (bfC 32 l);have av:Hid (rdB l=(decide (zaI (bfC 32 l)≠0)&&((stJ (zaI (bfC 32 l)) l 3).b0 == hN (zaI (bfC 32 l))&&(stJ (zaI (bfC 32 l)) l 3).b1 == hP (zaI (bfC 32 l))&&(stJ (zaI (bfC 32 l)) l 3).b2 == Go.Proofs.YtfikffhlfoidjaaGreatDoor.hT (zaI (bfC 32 l)))&&!(stJ (zaI (bfC 32 l)) l 3).m)):=rfl;have aI:Hid (rdV l=⟨zaI (bfC 32 l),(stJ (zaI (bfC 32 l)) l 3).n,(stJ (zaI (bfC 32 l)) l 3).p,⟨(stJ (zaI (bfC 32 l)) l 3).t.toArray⟩⟩):=rfl;have aN:=zCB (zaI (bfC 32 l)) l;have ai:Hid (stJ (zaI (bfC 32 l)) l 0=⟨afC 32 l,zdc 32 l,0,0,[],false,false,false⟩):=rfl;have an:=zCn (zaI (bfC 32 l)) l;have ap:=zCo (zaI (bfC 32 l)) l;have ar:=zCp (zaI (bfC 32 l)) l;generalize aO:zaI (bfC 32 l)=k at*;have aY:Hid _:=aO;clear aO;generalize stJ k l=b at*;go_wp2_with fail
 refine HK.mono ?_;rintro _ w2⟨rfl,rfl⟩;dsimp only;clear HK;have aD:=N.size;have aX:=ze q1;by_cases hk0:k=0
 .have hR:Hid (rdB l=false):=by show _=_;rw[av.out,hk0];simp
  subst hk0;have aH:(f.alloc (.cells ?A0 48)).heap[w.heap.size]? = some (.cells ?A0 48 (0,0)):=zR q1;have aK:=N.alloc N.size (.cells ?A0 48);go_upto_region 4 with fail
  generalize f.alloc (.cells ?A0 48)=W2 at*;go_wp2_with (refine wS_ rfl 48 _ _ rfl w.heap.size ?A0 rfl rfl 48 _ aH zAJ rfl (by simp[Value.oneCell']) ?_)
  refine bodyPost_ret (v:=.tuple #[.agg ?A0,.bool false]) (zj5 (fn:=Tryz.f31) (p:=2) (q:=3) (ty:=48) rfl _ _ w.heap.size 48 _ (0,0) _ (.bool false) ⟨rfl,rfl⟩ (sH_ _ _ _ _ _ _ aH) underlying48 rfl zAJ) rfl ⟨⟨⟨0,0,0,⟨#[]⟩⟩,by rw[hR.out],λh=>by rw[hR.out]at h;cases h⟩,(Upd.setRow aH).below aK aK.size (nR_ _)⟩
 refine kO_ ?B0 ?_;exact Obj.cells #[.bool false,.bool false,.bool false] 87;refine kV_ ?C0 ?_;exact Value.string ⟨#[]⟩;have a4:1<=k/\k<=10:=by omega
 obtain⟨d,rfl⟩:∃d:Nat,k=d:=⟨k.toNat,by omega⟩;have az:1<=d:=by omega
 have aA:d<=10:=by omega
 have aZ:((d:Int) == 0)=false:=by rw[beq_eq_false_iff_ne];exact hk0
 have aj:=(X.below N).k.alloc (.cells #[I_ d,I_ 0,I_ 0,?C0] 48);have c1:=aj.node d az aA;have c2:=aj.pick d az aA;have c3:=aj.text d az aA;have aT:=X.k.lt;rw[st1]at an;rw[st2]at ap;rw[st3]at ar;generalize hN d=C at*;generalize hP d=D at*;generalize Go.Proofs.YtfikffhlfoidjaaGreatDoor.hT d=F at*;have ao:Hid _:=an;have aq:Hid _:=ap;have au:Hid _:=ar;clear an ap ar;refine kW_ ?D0 ?_;exact((f.alloc (.cells #[I_ d,I_ 0,I_ 0,?C0] 48)).alloc (.cells #[.bool C,.bool D,.bool F] 87)).alloc ?B0;have aS:(?D0).heap[w.heap.size]? = some (.cells ?A0 48 (0,0)):=zR (zR (zR q1));have aP:(?D0).heap[f.heap.size]? = some (.cells #[I_ d,I_ (b 0).n,I_ (b 0).p,.string ⟨(b 0).t.toArray⟩] 48 (0,0)):=by rw[ai.out];exact zR (zR (hN_ f _))
 have aR:(?D0).heap[f.heap.size+1]? = some (.cells #[.bool C,.bool D,.bool F] 87 (0,0)):=zR (zco _ _ _ (by simp));have aQ:(?D0).heap[f.heap.size+1+1]? = some (.cells #[.bool (b 0).b0,.bool (b 0).b1,.bool (b 0).b2] 87 (0,0)):=by rw[ai.out];exact zco _ _ _ (by simp)
 have aL:B_ w ?D0:=((N.alloc N.size _).alloc (by simp;omega) _).alloc (by simp;omega) _;have d1:w.heap.size<=f.heap.size:=aD;have aw:f.heap.size≠w.heap.size:=by omega
 go_wp2_with fail
 clear c1 c2 c3 aj aT aX q1 N;generalize hW:?D0=W3 at*;clear hW;have aE:f.heap.size≠f.heap.size+1:=by omega
 have Y:f.heap.size≠f.heap.size+1+1:=by omega
 have aF:f.heap.size+1≠f.heap.size+1+1:=by omega
 have a6:w.heap.size≠f.heap.size+1:=by omega
 have aG:w.heap.size≠f.heap.size+1+1:=by omega
 have bA:w.heap.size<=f.heap.size:=aD;have bG:w.heap.size<=f.heap.size+1+1:=by omega
 generalize aV:f.heap.size+1+1=PG at*;generalize aW:f.heap.size+1=PH at*;generalize aU:f.heap.size=PA at*;clear aV aW aU aD d1;have am:Hid ((b 0).r=afC 32 l/\(b 0).m=zdc 32 l):=by show _/\_;rw[ai.out];exact⟨rfl,rfl⟩
 go_loopw [30,5,6] (λi r m wr=>∃j:Nat,j<=3/\i=I_ j/\r=.string ⟨(b j).r.toArray⟩/\m=.bool (b j).m/\B_ w wr/\R_ wr w.heap.size ?A0 48/\R_ wr PA #[I_ d,I_ (b j).n,I_ (b j).p,.string ⟨(b j).t.toArray⟩] 48/\R_ wr PH #[.bool C,.bool D,.bool F] 87/\R_ wr PG #[.bool (b j).b0,.bool (b j).b1,.bool (b j).b2] 87) (λi _ _ _=>3-(intOf i).toNat)
 case atStart=>exact⟨0,by omega,rfl,by rw[am.out.1],by rw[am.out.2],aL,aS,aP,aR,aQ⟩
 case round=>
  clear aS aP aR aQ aL;obtain⟨j,hj,rfl,rfl,rfl,z,o,I,H,J⟩:=hrel;have ak:=aN j;have g0:=zb J 0 _ rfl;have g1:=zb J 1 _ rfl;have g2:=zb J 2 _ rfl;have T:=zb H 0 _ rfl;have U:=zb H 1 _ rfl;have V:=zb H 2 _ rfl;obtain rfl|rfl|rfl|rfl:j=0\/j=1\/j=2\/j=3:=by omega
  .by_cases hon:C=true/\(b 0).m=true
   .obtain⟨g,A⟩:=hon;have c:Hid (b 1=⟨afC 32 (b 0).r,zdc 32 (b 0).r,zlJ (bfC 32 (b 0).r),(b 0).p,(b 0).t,zd6 (bfC 32 (b 0).r),(b 0).b1,(b 0).b2⟩):=by show _=_;rw[ao.out,iP_ ⟨g,A⟩]
    rw[g]at H T;rw[A];have L:=zAQ ⟨(b 0).r.toArray⟩ 32 wr (aC _ (by rw[<-aB];exact ak));rw[zqT]at L;have Z:(⟨(bfC 32 (b 0).r).toArray⟩:ByteArray).size<=140737488355328:=by rw[zzO];have:=zBg 32 (b 0).r;omega
    go_wp2_with fail
    refine L.mono ?_;rintro _ w4⟨rfl,t⟩;dsimp only;have al:=X.below (z.trans (t.mono z.size));have ab:=zk t I;have ag:=zk t o;have ae:=zk t H;have ad:=zk t J;have O:=zm z t;have M:=zCx PA d (b 0).n (b 0).p ⟨(b 0).t.toArray⟩ ⟨(bfC 32 (b 0).r).toArray⟩ w4 Z ab al;rw[zqT]at M;clear L g0 g1 g2 T U V;go_wp2_with fail
    refine M.mono ?_;rintro _ w5⟨rfl,u⟩;dsimp only;have B:=u.keep ad Y.symm;have x0:=zb B 0 _ rfl;have x1:=zb B 1 _ rfl;have x2:=zb B 2 _ rfl;have y0:=zd B 0;have y:=(Upd.refl B).setCell 0 (.bool (zd6 (bfC 32 (b 0).r)));have ac:=u.here;have af:=u.keep ae aE.symm;have ah:=u.keep ag aw.symm;have R:=u.low O O.size bA;clear M;go_wp2_with fail
    go_roundw
    case rel=>
     refine⟨1,by omega,by go_num,by rw[c.out],by rw[c.out],y.low R R.size bG,y.keep ah aG,?_,?_,?_⟩;rw[c.out];exact y.keep ac Y;rw[g];exact y.keep af aF;rw[c.out];exact y.here
    case measure=>simp[intOf]
   have c:Hid (b 1=b 0):=by show _=_;rw[ao.out,iN_ hon]
   have aa:C=false\/(C=true/\(b 0).m=false):=by
    cases hh:C;exact .inl rfl;refine .inr ⟨rfl,?_⟩;cases hmm:(b 0).m
    rfl
    exact absurd ⟨hh,hmm⟩ hon
   clear hon;rcases aa with g|⟨g,A⟩
   .rw[g]at T;go_wp2_with fail
    go_roundw
    case rel=>exact⟨1,by omega,by go_num,by rw[c.out],by rw[c.out],z,o,by rw[c.out];exact I,H,by rw[c.out];exact J⟩
    case measure=>simp[intOf]
   rw[g]at T;rw[A];go_wp2_with fail
   go_roundw
   case rel=>exact⟨1,by omega,by go_num,by rw[c.out],by rw[c.out,A],z,o,by rw[c.out];exact I,H,by rw[c.out];exact J⟩
   case measure=>simp[intOf]
  .by_cases hon:D=true/\(b 1).m=true
   .obtain⟨g,A⟩:=hon;have c:Hid (b 2=⟨afC 32 (b 1).r,zdc 32 (b 1).r,(b 1).n,zlJ (bfC 32 (b 1).r),(b 1).t,(b 1).b0,zd6 (bfC 32 (b 1).r),(b 1).b2⟩):=by show _=_;rw[aq.out,iP_ ⟨g,A⟩]
    rw[g]at H U;rw[A];have L:=zAQ ⟨(b 1).r.toArray⟩ 32 wr (aC _ (by rw[<-aB];exact ak));rw[zqT]at L;have Z:(⟨(bfC 32 (b 1).r).toArray⟩:ByteArray).size<=140737488355328:=by rw[zzO];have:=zBg 32 (b 1).r;omega
    go_wp2_with fail
    refine L.mono ?_;rintro _ w4⟨rfl,t⟩;dsimp only;have al:=X.below (z.trans (t.mono z.size));have ab:=zk t I;have ag:=zk t o;have ae:=zk t H;have ad:=zk t J;have O:=zm z t;have M:=zCy PA d (b 1).n (b 1).p ⟨(b 1).t.toArray⟩ ⟨(bfC 32 (b 1).r).toArray⟩ w4 Z ab al;rw[zqT]at M;clear L g0 g1 g2 T U V;go_wp2_with fail
    refine M.mono ?_;rintro _ w5⟨rfl,u⟩;dsimp only;have B:=u.keep ad Y.symm;have x0:=zb B 0 _ rfl;have x1:=zb B 1 _ rfl;have x2:=zb B 2 _ rfl;have y0:=zd B 1;have y:=(Upd.refl B).setCell 1 (.bool (zd6 (bfC 32 (b 1).r)));have ac:=u.here;have af:=u.keep ae aE.symm;have ah:=u.keep ag aw.symm;have R:=u.low O O.size bA;clear M;go_wp2_with fail
    go_roundw
    case rel=>
     refine⟨2,by omega,by go_num,by rw[c.out],by rw[c.out],y.low R R.size bG,y.keep ah aG,?_,?_,?_⟩;rw[c.out];exact y.keep ac Y;rw[g];exact y.keep af aF;rw[c.out];exact y.here
    case measure=>simp[intOf]
   have c:Hid (b 2=b 1):=by show _=_;rw[aq.out,iN_ hon]
   have aa:D=false\/(D=true/\(b 1).m=false):=by
    cases hh:D;exact .inl rfl;refine .inr ⟨rfl,?_⟩;cases hmm:(b 1).m
    rfl
    exact absurd ⟨hh,hmm⟩ hon
   clear hon;rcases aa with g|⟨g,A⟩
   .rw[g]at U;go_wp2_with fail
    go_roundw
    case rel=>exact⟨2,by omega,by go_num,by rw[c.out],by rw[c.out],z,o,by rw[c.out];exact I,H,by rw[c.out];exact J⟩
    case measure=>simp[intOf]
   rw[g]at U;rw[A];go_wp2_with fail
   go_roundw
   case rel=>exact⟨2,by omega,by go_num,by rw[c.out],by rw[c.out,A],z,o,by rw[c.out];exact I,H,by rw[c.out];exact J⟩
   case measure=>simp[intOf]
  .by_cases hon:F=true/\(b 2).m=true
   .obtain⟨g,A⟩:=hon;have c:Hid (b 3=⟨afC 32 (b 2).r,zdc 32 (b 2).r,(b 2).n,(b 2).p,zzY (bfC 32 (b 2).r),(b 2).b0,(b 2).b1,zAB (bfC 32 (b 2).r)⟩):=by show _=_;rw[au.out,iP_ ⟨g,A⟩]
    rw[g]at H V;rw[A];have L:=zAQ ⟨(b 2).r.toArray⟩ 32 wr (aC _ (by rw[<-aB];exact ak));rw[zqT]at L;have Z:(⟨(bfC 32 (b 2).r).toArray⟩:ByteArray).size<=140737488355328:=by rw[zzO];have:=zBg 32 (b 2).r;omega
    go_wp2_with fail
    refine L.mono ?_;rintro _ w4⟨rfl,t⟩;dsimp only;have al:=X.below (z.trans (t.mono z.size));have ab:=zk t I;have ag:=zk t o;have ae:=zk t H;have ad:=zk t J;have O:=zm z t;have M:=zCz PA d (b 2).n (b 2).p ⟨(b 2).t.toArray⟩ ⟨(bfC 32 (b 2).r).toArray⟩ w4 Z ab;rw[zqT]at M;clear L g0 g1 g2 T U V;go_wp2_with fail
    refine M.mono ?_;rintro _ w5⟨rfl,u⟩;dsimp only;have B:=u.keep ad Y.symm;have x0:=zb B 0 _ rfl;have x1:=zb B 1 _ rfl;have x2:=zb B 2 _ rfl;have y0:=zd B 2;have y:=(Upd.refl B).setCell 2 (.bool (zAB (bfC 32 (b 2).r)));have ac:=u.here;have af:=u.keep ae aE.symm;have ah:=u.keep ag aw.symm;have R:=u.low O O.size bA;clear M;go_wp2_with fail
    go_roundw
    case rel=>
     refine⟨3,by omega,by go_num,by rw[c.out],by rw[c.out],y.low R R.size bG,y.keep ah aG,?_,?_,?_⟩;rw[c.out];exact y.keep ac Y;rw[g];exact y.keep af aF;rw[c.out];exact y.here
    case measure=>simp[intOf]
   have c:Hid (b 3=b 2):=by show _=_;rw[au.out,iN_ hon]
   have aa:F=false\/(F=true/\(b 2).m=false):=by
    cases hh:F;exact .inl rfl;refine .inr ⟨rfl,?_⟩;cases hmm:(b 2).m
    rfl
    exact absurd ⟨hh,hmm⟩ hon
   clear hon;rcases aa with g|⟨g,A⟩
   .rw[g]at V;go_wp2_with fail
    go_roundw
    case rel=>exact⟨3,by omega,by go_num,by rw[c.out],by rw[c.out],z,o,by rw[c.out];exact I,H,by rw[c.out];exact J⟩
    case measure=>simp[intOf]
   rw[g]at V;rw[A];go_wp2_with fail
   go_roundw
   case rel=>exact⟨3,by omega,by go_num,by rw[c.out],by rw[c.out,A],z,o,by rw[c.out];exact I,H,by rw[c.out];exact J⟩
   case measure=>simp[intOf]
  have a0:=zb I 0 _ rfl;have a1:=zb I 1 _ rfl;have a2:=zb I 2 _ rfl;have a3:=zb I 3 _ rfl;have z0:=zb o 0 _ rfl;have z1:=zb o 1 _ rfl;have z2:=zb o 2 _ rfl;have z3:=zb o 3 _ rfl;have a7:=zd o 0;have a8:=zd o 1;have a9:=zd o 2;have zf3:=zd o 3;have hE:=eq3 (b 3).b0 (b 3).b1 (b 3).b2 C D F;have aJ:Hid (rdB l=(((b 3).b0 == C&&(b 3).b1 == D&&(b 3).b2 == F)&&!(b 3).m)):=by
   show _=_;rw[av.out,dT_ (show(d:Int)≠0 by omega),Bool.true_and]
  clear av;generalize ((b 3).b0 == C&&(b 3).b1 == D&&(b 3).b2 == F)=E at*;generalize (b 3).b0=x0 at*;generalize (b 3).b1=x1 at*;generalize (b 3).b2=x2 at*;generalize (b 3).m=mm at*;generalize (b 3).n=nn at*;generalize (b 3).p=pp at*;generalize (b 3).r=rr at*;generalize (⟨(b 3).t.toArray⟩:ByteArray)=tt at*;clear ao aq au ai am ak aN;have ax:=(((((Upd.refl o).setCell 0 (I_ d)).setCell 1 (I_ nn)).setCell 2 (I_ pp)).setCell 3 (.string tt)).drew;have aM:=ax.low z z.size (nR_ _);cases E
  .go_wp2_with fail
   go_region
   all_goals
    go_wp2_with fail
    refine bodyPost_ret (v:=.tuple #[.agg #[I_ d,I_ nn,I_ pp,.string tt],.bool false]) (zj5 (fn:=Tryz.f31) (p:=2) (q:=3) (ty:=48) rfl _ _ w.heap.size 48 _ (0,0) _ (.bool false) ⟨rfl,rfl⟩ ax.here underlying48 rfl zAJ) rfl ⟨⟨⟨d,nn,pp,tt⟩,by rw[aJ.out];simp,λ_=>aI.out.symm⟩,aM⟩
  go_wp2_with fail
  go_region
  all_goals
   go_wp2_with fail
   refine bodyPost_ret (v:=.tuple #[.agg #[I_ d,I_ nn,I_ pp,.string tt],.bool (!mm)]) (zj5 (fn:=Tryz.f31) (p:=2) (q:=3) (ty:=48) rfl _ _ w.heap.size 48 _ (0,0) _ (.bool (!mm)) ⟨rfl,rfl⟩ ax.here underlying48 rfl zAJ) rfl ⟨⟨⟨d,nn,pp,tt⟩,by rw[aJ.out];simp,λ_=>aI.out.symm⟩,aM⟩
end Go.Proofs.YtfikffhlfoidjaaGreatDoor
