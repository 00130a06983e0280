import Derived.Test.YtdnaljbnebnlhaaGreatDoorPk17
set_option maxRecDepth 100000
set_option maxHeartbeats 4000000
namespace Go.Proofs.YtdnaljbnebnlhaaGreatDoor
open Go.RowKit Tryz
variable {w w':World}{qs bl pl:List zi}{rd au:Int}{vl:List Int}
theorem ztK {b:List zi}(h:zbm b qs)(k:Nat):(zcT b k).bs=(zcT qs k).bs:=by
 have c:(b.map (·.bs))[k]? = (qs.map (·.bs))[k]?:=by rw[h]
 simp only[List.getElem?_map]at c;simp only[zcT,List.getD];cases h1:b[k]?<;>cases h2:qs[k]?<;>simp_all
theorem zvI {b:List zi}(h:zbm b qs)(k:Nat):zbn b k=zbn qs k:=by
 induction k with
 | zero=>rfl
 | succ k ih=>
  have c:zcF b k=zcF qs k:=by
   have d:zgm b k=zgm qs k:=by
    simp only[zgm,ztK h]
   rw[zcF,zcF,d,ztK h k]
  rw[zbn,zbn,ih,c]
theorem ztL {b:List zi}(h:zbm b qs):zb8 b=zb8 qs:=by
 rw[zb8,zb8,h.length,zvI h]
theorem znd {b f:List zi}(c:zbm bl b)(d:zbm pl f):zO au rd bl pl=zO au rd b f:=by
 rw[zO,zO,ztL c,ztL d,c.length,d.length]
theorem zxe {b c:List zi}(d:zbm bl b)(f:zbm pl c):zap au rd bl pl vl=zap au rd b c vl:=by
 rw[zap,zap,znd d f]
theorem zxf {x y:MV}(b:MAt w x)(c:MAt w' y)(h:y.c=x.c):zP y.m y.car=zP x.m x.car:=by
 simp only[MV.c,MC.mk.injEq]at h;obtain⟨L,N,G,m,o,H,p,q,I,C,d,f,M,g,j,D,E,F,l⟩:=h;have s:y.m.btn=x.m.btn:=by rw[c.at'.e1,b.at'.e1,H]
 have t:y.m.hbn=x.m.hbn:=by rw[c.at'.e2,b.at'.e2];exact zbm.length I
 have u:y.m.hpn=x.m.hpn:=by rw[c.at'.e3,b.at'.e3];exact zbm.length C
 have z:y.m.cbn=x.m.cbn:=by rw[c.at'.e4,b.at'.e4];exact zbm.length D
 have A:y.m.cpn=x.m.cpn:=by rw[c.at'.e5,b.at'.e5];exact zbm.length E
 have B:y.m.cvn=x.m.cvn:=by rw[c.at'.e6,b.at'.e6,F]
 have r:y.m.sdn=x.m.sdn:=by rw[c.dn,b.dn,M]
 have O:zO y.m.hau y.m.hrd y.bl y.pl=zO x.m.hau x.m.hrd x.bl x.pl:=by rw[p,q];exact znd I C
 have R:zap y.m.cau y.m.crd y.cbl y.cpl y.vl=zap x.m.cau x.m.crd x.cbl x.cpl x.vl:=by rw[g,j,F];exact zxe D E
 have J:y.car=x.car:=by
  show zD y.m y.ss y.bl y.pl y.cbl y.cpl y.vl=zD x.m x.ss x.bl x.pl x.cbl x.cpl x.vl;rw[zD,zD,O,R,G,m,o,H,d,f,r,l]
 have T:zaq (zab y.m)=zaq (zab x.m):=by
  rw[zab,zab,G];by_cases k1:x.m.ki=1
  .rw[if_pos k1,if_pos k1];simp only[zaq,p,q,d,f,g,j,l,t,u,z,A,B,r]
  .rw[if_neg k1,if_neg k1];by_cases k2:x.m.ki=2
   .rw[if_pos k2,if_pos k2];simp only[zaq,m,o,d,f,g,j,l,s,z,A,B,r]
   .rw[if_neg k2,if_neg k2];by_cases k3:x.m.ki=3
    .rw[if_pos k3,if_pos k3];simp only[zaq,m,o,p,q,g,j,l,s,t,u,z,A,B]
    .rw[if_neg k3,if_neg k3];by_cases k4:x.m.ki=4
     .rw[if_pos k4,if_pos k4];simp only[zaq,m,o,p,q,d,f,l,s,t,u,r]
     .rw[if_neg k4,if_neg k4];simp only[zaq,m,o,p,q,d,f,g,j,s,t,u,z,A,B,r]
 rw[zP,zP,L,N,J,T]
def zfr (b:Bc):MV:=⟨⟨0,0,1,b.v.au,b.v.nu,0,0,0,0,0,0,0,b.ta,none,none,none,none,none,none,b.v.ss.length,b.tc,0,0,0,0,0,0,0,0,0,0,0,0⟩,b.v.ss,[],[],[],[],[],[]⟩
theorem zmy (b:Bc)(w:World):Calls prog 137 #[.agg #[I_ b.v.au,I_ b.v.nu,.slice b.ta b.v.ss.length b.tc]] w λe w'=>e=.returned (.agg (mrow_ (zfr b).m))/\B_ w w':=by
 refine kO_ ?B0 ?_;exact Obj.cells #[I_ b.v.au,I_ b.v.nu,.slice b.ta b.v.ss.length b.tc] 58;have c:=hY_ w ?B0 (.cells mz_ 66);have d:B_ w ((w.alloc ?B0).alloc (.cells mz_ 66)):=((bR_ _ _).alloc (nR_ _) _).alloc (by simp) _;go_in;refine kA_ ?A0 ?_;exact #[I_ 0,I_ 0,I_ (1),I_ (b.v.au),I_ (b.v.nu),.slice b.ta b.v.ss.length b.tc,I_ 0,I_ 0,O_,O_,I_ 0,I_ 0,O_,I_ 0,I_ 0,O_,O_,O_,I_ 0];go_wp2_with (refine wpList_store_row rfl 66 _ _ rfl (w.heap.size+1) ?A0 rfl rfl 66 _ c sMsg' rfl (by simp[Value.oneCell']) ?_)
 exact bP_ (v:=.agg ?A0) (results_cell_row (fn:=Tryz.f137) (p:=2) (ty:=66) rfl _ _ (w.heap.size+1) 66 _ (0,0) _ rfl (setRow_heap _ _ _ _ _ _ c) underlying66 rfl sMsg') rfl ⟨rfl,(Upd.setRow c).below d d.size (by omega)⟩
def zeO (h:Ct):MV:=⟨⟨0,0,2,0,0,h.au,h.rd,0,0,0,0,0,none,h.ba,h.pa,none,none,none,none,0,0,h.bl.length,h.bc,h.pl.length,h.pc,0,0,0,0,0,0,0,0⟩,[],h.bl,h.pl,[],[],[],[]⟩
theorem zmz (h:Ct)(w:World):Calls prog 141 #[.agg (hrow_ h)] w λe w'=>e=.returned (.agg (mrow_ (zeO h).m))/\B_ w w':=by
 have b:=hY_ w (.cells (hrow_ h) 61) (.cells mz_ 66);have c:B_ w ((w.alloc (.cells (hrow_ h) 61)).alloc (.cells mz_ 66)):=((bR_ _ _).alloc (nR_ _) _).alloc (by simp) _;go_in;refine kA_ ?A0 ?_;exact #[I_ 0,I_ 0,I_ (2),I_ 0,I_ 0,O_,I_ (h.au),I_ (h.rd),.slice h.ba h.bl.length h.bc,.slice h.pa h.pl.length h.pc,I_ 0,I_ 0,O_,I_ 0,I_ 0,O_,O_,O_,I_ 0];go_wp2_with (refine wpList_store_row rfl 66 _ _ rfl (w.heap.size+1) ?A0 rfl rfl 66 _ b sMsg' rfl (by simp[Value.oneCell']) ?_)
 exact bP_ (v:=.agg ?A0) (results_cell_row (fn:=Tryz.f141) (p:=2) (ty:=66) rfl _ _ (w.heap.size+1) 66 _ (0,0) _ rfl (setRow_heap _ _ _ _ _ _ b) underlying66 rfl sMsg') rfl ⟨rfl,(Upd.setRow b).below c c.size (by omega)⟩
def z7 (s:Sl):MV:=⟨⟨0,0,3,0,0,0,0,s.au,s.rd,0,0,0,none,none,none,s.p.sa,none,none,none,0,0,0,0,0,0,s.p.bs.length,s.p.cap,0,0,0,0,0,0⟩,[],[],[],[],[],s.p.bs,[]⟩
theorem zmA (s:Sl)(w:World):Calls prog 165 #[.agg (srow_ s)] w λe w'=>e=.returned (.agg (mrow_ (z7 s).m))/\B_ w w':=by
 have b:=hY_ w (.cells (srow_ s) 53) (.cells mz_ 66);have c:B_ w ((w.alloc (.cells (srow_ s) 53)).alloc (.cells mz_ 66)):=((bR_ _ _).alloc (nR_ _) _).alloc (by simp) _;go_in;refine kA_ ?A0 ?_;exact #[I_ 0,I_ 0,I_ (3),I_ 0,I_ 0,O_,I_ 0,I_ 0,O_,O_,I_ (s.au),I_ (s.rd),.slice s.p.sa s.p.bs.length s.p.cap,I_ 0,I_ 0,O_,O_,O_,I_ 0];go_wp2_with (refine wpList_store_row rfl 66 _ _ rfl (w.heap.size+1) ?A0 rfl rfl 66 _ b sMsg' rfl (by simp[Value.oneCell']) ?_)
 exact bP_ (v:=.agg ?A0) (results_cell_row (fn:=Tryz.f165) (p:=2) (ty:=66) rfl _ _ (w.heap.size+1) 66 _ (0,0) _ rfl (setRow_heap _ _ _ _ _ _ b) underlying66 rfl sMsg') rfl ⟨rfl,(Upd.setRow b).below c c.size (by omega)⟩
def zef (c:Ct):MV:=⟨⟨0,0,4,0,0,0,0,0,0,c.au,c.rd,0,none,none,none,none,c.ba,c.pa,c.va,0,0,0,0,0,0,0,0,c.bl.length,c.bc,c.pl.length,c.pc,c.vl.length,c.vc⟩,[],[],[],c.bl,c.pl,[],c.vl⟩
theorem zx9 (c:Ct):(zef c).c=zdh c.v:=rfl
theorem zmB (c:Ct)(w:World):Calls prog 170 #[.agg (crow_ c)] w λe w'=>e=.returned (.agg (mrow_ (zef c).m))/\B_ w w':=by
 have b:=hY_ w (.cells (crow_ c) 64) (.cells mz_ 66);have d:B_ w ((w.alloc (.cells (crow_ c) 64)).alloc (.cells mz_ 66)):=((bR_ _ _).alloc (nR_ _) _).alloc (by simp) _;go_in;refine kA_ ?A0 ?_;exact #[I_ 0,I_ 0,I_ (4),I_ 0,I_ 0,O_,I_ 0,I_ 0,O_,O_,I_ 0,I_ 0,O_,I_ (c.au),I_ (c.rd),.slice c.ba c.bl.length c.bc,.slice c.pa c.pl.length c.pc,.slice c.va c.vl.length c.vc,I_ 0];go_wp2_with (refine wpList_store_row rfl 66 _ _ rfl (w.heap.size+1) ?A0 rfl rfl 66 _ b sMsg' rfl (by simp[Value.oneCell']) ?_)
 exact bP_ (v:=.agg ?A0) (results_cell_row (fn:=Tryz.f170) (p:=2) (ty:=66) rfl _ _ (w.heap.size+1) 66 _ (0,0) _ rfl (setRow_heap _ _ _ _ _ _ b) underlying66 rfl sMsg') rfl ⟨rfl,(Upd.setRow b).below d d.size (by omega)⟩
def zz (r:Int):MV:=⟨⟨0,0,5,0,0,0,0,0,0,0,0,r,none,none,none,none,none,none,none,0,0,0,0,0,0,0,0,0,0,0,0,0,0⟩,[],[],[],[],[],[],[]⟩
theorem zqU (r:Int)(w:World):Calls prog 148 #[I_ r] w λe w'=>e=.returned (.agg (mrow_ (zz r).m))/\B_ w w':=by
 have b:=hN_ w (.cells mz_ 66);have c:=zC w (.cells mz_ 66);go_in;refine kA_ ?A0 ?_;exact #[I_ 0,I_ 0,I_ (5),I_ 0,I_ 0,O_,I_ 0,I_ 0,O_,O_,I_ 0,I_ 0,O_,I_ 0,I_ 0,O_,O_,O_,I_ (r)];go_wp2_with (refine wpList_store_row rfl 66 _ _ rfl w.heap.size ?A0 rfl rfl 66 _ b sMsg' rfl (by simp[Value.oneCell']) ?_)
 exact bP_ (v:=.agg ?A0) (results_cell_row (fn:=Tryz.f148) (p:=2) (ty:=66) rfl _ _ w.heap.size 66 _ (0,0) _ rfl (setRow_heap _ _ _ _ _ _ b) underlying66 rfl sMsg') rfl ⟨rfl,(Upd.setRow b).below c c.size (by omega)⟩
theorem zdy (w:World):zx w none 0 []:=zaj w
theorem zn0 (w:World):zax w none []:=⟨.inl rfl⟩
theorem zhL (w:World):zas w none []:=⟨.inl rfl,λs b=>by cases b⟩
theorem zkN {b:BW}(h:b.f=0):b.ss.length<=4:=by
 unfold BW.f zbk at h
 split at h
 .simp at h
 .split at h
  .simp at h
  .omega
theorem ztM {b:Bc}(h:zcN w b)(c:b.v.ss.length<=4):MAt w (zfr b):=
 ⟨⟨rfl,rfl,rfl,rfl,rfl,rfl,nT_ c (by decide),by simp[zfr],by simp[zfr],h.strs,zdy _,zdy _,zdy _,zdy _,zn0 _⟩,zgD _,rfl⟩
theorem ztN {h:Ct}(b:HAt w h.ba h.bc h.bl h.pa h.pc h.pl):MAt w (zeO h):=
 ⟨⟨rfl,rfl,rfl,rfl,rfl,rfl,by simp[zeO],by simp[zeO],by simp[zeO],zhL _,b.lb,b.lp,zdy _,zdy _,zn0 _⟩,zgD _,rfl⟩
theorem ztO {s:Sl}(h:zg w s.p.sa s.p.cap s.p.bs)(b:s.p.bs.length<=32):MAt w (z7 s):=
 ⟨⟨rfl,rfl,rfl,rfl,rfl,rfl,by simp[z7],by simp[z7],nT_ b (by decide),zhL _,zdy _,zdy _,zdy _,zdy _,zn0 _⟩,h,rfl⟩
theorem ztP {c:Ct}(h:za7 w c):MAt w (zef c):=
 ⟨⟨rfl,rfl,rfl,rfl,rfl,rfl,by simp[zef],h.vle,by simp[zef],zhL _,zdy _,zdy _,h.hat.lb,h.hat.lp,h.ints⟩,zgD _,rfl⟩
theorem zya (w:World)(r:Int):MAt w (zz r):=
 ⟨⟨rfl,rfl,rfl,rfl,rfl,rfl,by simp[zz],by simp[zz],by simp[zz],zhL _,zdy _,zdy _,zdy _,zdy _,zn0 _⟩,zgD _,rfl⟩
theorem zc3 {α:Type}{P:α->Prop}:∀p∈([]:List α),P p:=λp b=>by cases b
theorem zqV {b:Bc}(h:b.v.f=0):zaT (zfr b):=⟨h,rfl,rfl,rfl,by show(1:Int)≠5;decide⟩
theorem zqW {h:Ct}(b:zO h.au h.rd h.bl h.pl=0):zaT (zeO h):=⟨b,rfl,rfl,rfl,by show(2:Int)≠5;decide⟩
theorem zqX {s:Sl}(h:zbf s.au s.rd s.p.bs.length=0):zaT (z7 s):=⟨h,rfl,rfl,rfl,by show(3:Int)≠5;decide⟩
theorem zqY {c:Ct}(h:zap c.au c.rd c.bl c.pl c.vl=0):zaT (zef c):=⟨h,rfl,rfl,rfl,by show(4:Int)≠5;decide⟩
def U8L (l:List zi):Prop:=∀p∈l,∀x∈p.bs,0<=x/\x<=255
theorem ztQ (b:Bc):U8M (zfr b).bl (zfr b).pl (zfr b).cbl (zfr b).cpl (zfr b).ds:=⟨zc3,zc3,zc3,zc3,zc3⟩
theorem ztR {h:Ct}(b:U8L h.bl)(c:U8L h.pl):U8M (zeO h).bl (zeO h).pl (zeO h).cbl (zeO h).cpl (zeO h).ds:=⟨b,c,zc3,zc3,zc3⟩
theorem ztS {s:Sl}(h:∀x∈s.p.bs,0<=x/\x<=255):U8M (z7 s).bl (z7 s).pl (z7 s).cbl (z7 s).cpl (z7 s).ds:=⟨zc3,zc3,zc3,zc3,h⟩
theorem ztT {c:Ct}(b:U8L c.bl)(d:U8L c.pl):U8M (zef c).bl (zef c).pl (zef c).cbl (zef c).cpl (zef c).ds:=⟨zc3,zc3,b,d,zc3⟩
theorem zyb (r:Int):U8M (zz r).bl (zz r).pl (zz r).cbl (zz r).cpl (zz r).ds:=⟨zc3,zc3,zc3,zc3,zc3⟩
theorem zgY (w:World):HAt w none 0 [] none 0 []:=⟨zdy w,zdy w,(λ_ _ e=>by cases e),(λ_ _ e=>by cases e)⟩
theorem zn1 (w:World):zcN w ⟨⟨0,0,[]⟩,none,0⟩:=⟨zhL w,nR_ _,nZ_ _,(λ_=>rfl),(λ_ _ e=>by cases e)⟩
theorem ztU {b:Bc}(h:zcN w b)(c:b.v.f=0):GM w (zfr b):=⟨ztM h (zkN c),(zqV c).check,ztQ b,⟨h,zgY w,zgY w⟩⟩
theorem ztV {h:Ct}(b:HAt w h.ba h.bc h.bl h.pa h.pc h.pl)(f:zO h.au h.rd h.bl h.pl=0)(c:U8L h.bl)(d:U8L h.pl):GM w (zeO h):=⟨ztN b,(zqW f).check,ztR c d,⟨zn1 w,b,zgY w⟩⟩
theorem ztW {s:Sl}(h:zg w s.p.sa s.p.cap s.p.bs)(b:zbf s.au s.rd s.p.bs.length=0)(c:∀x∈s.p.bs,0<=x/\x<=255):GM w (z7 s):=⟨ztO h (by have:=(zho b).2.2;omega),(zqX b).check,ztS c,⟨zn1 w,zgY w,zgY w⟩⟩
theorem ztX {c:Ct}(h:za7 w c)(f:zap c.au c.rd c.bl c.pl c.vl=0)(b:U8L c.bl)(d:U8L c.pl):GM w (zef c):=⟨ztP h,(zqY f).check,ztT b d,⟨zn1 w,zgY w,h.hat⟩⟩
theorem zyc (w:World){r:Int}(h:1<=r/\r<=1048576):GM w (zz r):=⟨zya w r,zh0 (by show(0:Int)<=0/\(0:Int)<4;decide) (by show(0:Int)<=0/\(0:Int)<4;decide) (by show(if 1<=r/\r<=1048576 then(0:Int)else 2)=0;rw[if_pos h]) rfl,zyb r,⟨zn1 w,zgY w,zgY w⟩⟩
theorem zoO (x:MV):x.onTape=x.c.onTape:=by
 have d:zbm x.bl (pz (x.bl.map (·.bs))):=(zcH x.bl).symm;have f:zbm x.pl (pz (x.pl.map (·.bs))):=(zcH x.pl).symm;have g:zbm x.cbl (pz (x.cbl.map (·.bs))):=(zcH x.cbl).symm;have j:zbm x.cpl (pz (x.cpl.map (·.bs))):=(zcH x.cpl).symm;have l:x.bytes=x.c.mv.bytes:=by
  have b:=zhX (au:=x.m.hau) (rd:=x.m.hrd) d f;have c:=zhX (au:=x.m.cau) (rd:=x.m.crd) g j;simp only[MV.bytes,zeL,zcG,MC.mv,MV.c];rw[<-b];simp only[zeE];rw[<-c]
  rfl
 simp only[MC.onTape,MV.onTape,l]
theorem zes (l:List MV):zam l=zae (l.map MV.c):=by
 induction l with
 | nil=>rfl
 | cons x l ih=>simp only[zam,zae,List.flatMap_cons,List.map_cons]at ih|-;rw[ih,zoO]
variable {ra:Option Addr}{rc:Nat}
theorem zrU {n:Nd}{t:Int}{d:List Int}{b:BW}(h:bOf n.k.sh d=some b):n.sendD t d=n.send t (zed b):=by rw[Nd.sendD,h]
theorem zrV {n:Nd}{t:Int}{d:List Int}(h:bOf n.k.sh d=none):n.sendD t d=n:=by rw[Nd.sendD,h]
theorem zxg (h:zx w ra rc qs)(k:Nat)(d:k<qs.length):∃b c,ra=some ⟨b,c,none⟩/\w.cell? ⟨b,c+k,none⟩=some (.slice (qs[k]).sa (qs[k]).bs.length (qs[k]).cap):=by
 rcases h.parts.cells with h|⟨b,c,e,h⟩
 .subst h;simp at d
 .exact⟨b,c,e,h k d⟩
theorem zrW (n:Nd)(t:Int)(bl:List zi)(k:Nat)(b:k<bl.length):n.sendB t (bss (bl.take (k+1)))=(n.sendB t (bss (bl.take k))).sendD t (bl[k]).bs:=by
 rw[tS_ b];simp only[bss,List.map_append,Nd.sendB,List.foldl_append]
 rfl
theorem zne (x:NM)(b:Ct)(f:Int)(w:World)(U:Nat->Bool)(F o:Nat)(T:TypeId)(r:Array Value)(h:zo w U F o T r x)(X:HAt (zq U w) b.ba b.bc b.bl b.pa b.pc b.pl)(ht:0<=f/\f<4) :
  Calls prog 145 #[P_ F o,I_ f,.agg (hrow_ b)] w λe w'=>(∃v,e=.returned v)/\zal w U F o T r x w' (x.v.sendB f (bss b.bl)):=by
 have z:=zC w (.cells (hrow_ b) 61);have L:=hN_ w (.cells (hrow_ b) 61);have aj:b.bl.length<=9000000000000000000:=X.lb.small;go_in;go_upto_region 1 with fail
 generalize w.alloc (.cells (hrow_ b) 61)=W0 at z L|-;have O:=h.below z;have ac:=NTo.below (F:=F) (o:=o) U r x z;have ab:=X.lb.sub (zao.below U z).sub;have d2:=zb L 2 _ rfl;go_wp2_with fail
 clear d2 L;go_loopw [12] (λj wr=>∃(k:Nat) (d:Nat->Bool) (g:Array Value) (c:NM),k<=b.bl.length/\j=I_ k/\zo wr d F o T g c/\NTo U d W0 wr F o r g x c/\Hid (c.v=x.v.sendB f (bss (b.bl.take k)))) (λj _=>b.bl.length-(intOf j).toNat)
 case atStart=>exact⟨0,U,r,x,nZ_ _,rfl,O,NTo.refl _ _ _ _ _ _,rfl⟩
 case round=>
  obtain⟨k,d,g,c,hk,rfl,y,C,B⟩:=hrel;by_cases hlt:k<b.bl.length
  .have ai:(k:Int)<b.bl.length:=by omega
   have E:=ab.sub (C.sub O);obtain⟨sb,so,ad,ck⟩:=zxg (E.sub (zK d wr)) k hlt;have G:zg wr (b.bl[k]).sa (b.bl[k]).cap (b.bl[k]).bs:=((E.sub (zK d wr)).parts.each _ (gM_ hlt));have D:Hid _:=zrW x.v f b.bl k hlt;rw[ad];clear E;generalize b.bl[k]=p at*;go_wp2_with fail
   refine(znb c p.bs p.sa _ p.cap wr d F o T g y rfl G).mono ?_;rintro _ w2⟨rfl,Y⟩;dsimp only;have l:=y.below Y;have J:=C.trans (NTo.below (F:=F) (o:=o) d g c Y);clear ck;rcases ztJ (shw c.sh) p.bs with⟨q,-,m⟩|⟨i,I,q,-,m⟩
   .have u:Hid (c.v=x.v.sendB f (bss (b.bl.take (k+1)))):=by show _=_;rw[D.out,<-B.out];exact(zrV m).symm
    rw[q];clear q m G;go_wp2_with fail
    go_roundw
    case rel=>exact⟨k+1,d,g,c,by omega,by go_num,l,J,u⟩
    case measure=>simp[intOf];omega
   .have A:i<c.sh.length:=by rw[zb6]at I;exact I
    have N:(shw c.sh)[i]=(c.sh[i]).b.v:=by simp[shw]
    rw[N]at m;have u:Hid (∀n,n=c.v.send f (zed (c.sh[i]).b.v)->n=x.v.sendB f (bss (b.bl.take (k+1)))):=by
     show ∀_,_;intro n hn;rw[D.out,<-B.out,hn];exact(zrU m).symm
    rw[q];have ag:(0:Int)<=(i:Int):=by omega
    have ah:(i:Int)<c.sh.length:=by omega
    obtain⟨ak,al,ae,c0,c1,c2,c3⟩:=l.shs.at i A;have M:=l.cell 4 _ rfl;have V:zcN (zq d w2) (c.sh[i]).b:=(l.esh _ (gM_ A)).b;have Z:(c.sh[i]).b.v.f=0:=l.inv.shf _ (by show _∈shw c.sh;exact List.mem_map.2 ⟨_,gM_ A,rfl⟩);rw[ae]at M;clear q m N I D G;generalize c.sh[i]=s at*;clear A;go_wp2_with fail
    refine(zmy s.b w2).mono ?_;rintro _ w3⟨rfl,H⟩;dsimp only;have R:=l.below H;have n3:=J.trans (NTo.below (F:=F) (o:=o) d g c H);clear c0 c1 c2 c3 M;go_wp2_with fail
    refine(zeN c (zfr s.b) f w3 d F o T g R ((ztU V Z).sub (zao.below d H).sub) ht).mono ?_;rintro e w4⟨⟨v,t⟩,U4,fc4,x4,h4,n4,v4⟩;subst t;dsimp only;have af:=n3.trans n4;have aa:Hid _:=u.out _ v4;clear v4 u V Z R n3 n4 y C J l;go_wp2_with fail
    go_roundw
    case rel=>exact⟨k+1,U4,fc4,x4,by omega,by go_num,h4,af,aa⟩
    case measure=>simp[intOf];omega
  .obtain rfl:k=b.bl.length:=by omega
   rw[tL_ (nR_ _)]at B;go_wp2_with fail
   go_end0;exact⟨⟨_,rfl⟩,d,g,c,y,ac.trans C,B.out⟩
theorem zrX (v n:Int)(g:Nat)(w:World)(b:w.cell? ⟨g,0,none⟩=some (I_ n)) :
  Calls prog 185 #[I_ v,(P_ g 0)] w λe w'=>e=.returned (.bool (decide (v=n)))/\B_ w w':=by
 go_in;go_wp2_with fail
 go_ret;exact⟨by simp[BEq.beq],bR_ _ _⟩
theorem zjp (x:NM)(n:Int)(w:World)(U:Nat->Bool)(F o:Nat)(T:TypeId)(q:Array Value)(h:zo w U F o T q x) :
  Calls prog 144 #[P_ F o,I_ n] w λe w'=>e=.returned (.bool (decide (n∈x.vot)))/\B_ w w':=by
 have C:∀(fn:Fn) (first f:Array Value) (w:World),(Instr.makeFunc fn first f).run prog w=.ok (.func fn first f) w:=λ_ _ _ _=>rfl;have b:=zC w (.cells #[I_ n] 3);have m:=hN_ w (.cells #[I_ n] 3);go_in;go_upto_region 2 with fail
 generalize w.alloc (.cells #[I_ n] 3)=d at b m|-;have j:=h.below b;have B:=j.cell 14 _ rfl;have p:=zb m 0 _ rfl;have l:zax d x.oa x.vot:=by
  obtain⟨E,G,e,_,z,_⟩:=zeW j.rvo;cases e;exact z
 have r:x.vot.length<=4:=h.inv.vot.1;have c:=zgN 185 #[P_ w.heap.size 0] (λv=>decide (v=n)) (eO_ func185) x.vot x.oa _ x.oc d rfl (by omega) l (λv _ W t=>zrX v n w.heap.size W (zr t p));have s:Hid (x.vot.any (λv=>decide (v=n))=decide (n∈x.vot)):=by
  show _=_;by_cases g:n∈x.vot
  .rw[dT_ g];exact List.any_eq_true.2 ⟨n,g,by simp⟩
  .rw[dF_ g];exact List.any_eq_false.2 (λv A=>by simp;intro e;subst e;exact g A)
 clear r l;go_wp2_with fail
 refine c.mono ?_;rintro _ D⟨rfl,u⟩;dsimp only;clear c;go_wp2_with fail
 go_ret;exact⟨by rw[s.out];rfl,b.trans (u.mono b.size)⟩
variable {U:Nat->Bool}{F o:Nat}{fc:Array Value}{T:TypeId}{x:NM}
theorem ztY (n:Nd)(t:Int)(m:MC):(n.send t m).k=n.k/\(n.send t m).vot=n.vot/\(n.send t m).nu=n.nu:=by rw[Nd.send];split<;>exact⟨rfl,rfl,rfl⟩
theorem zxh (n:Nd)(t:Int)(d:List Int):(n.sendD t d).k=n.k/\(n.sendD t d).vot=n.vot/\(n.sendD t d).nu=n.nu:=by
 rw[Nd.sendD];split
 .exact ztY _ _ _
 .exact⟨rfl,rfl,rfl⟩
theorem zqZ (n:Nd)(t:Int)(l:List (List Int)):(n.sendB t l).k=n.k/\(n.sendB t l).vot=n.vot/\(n.sendB t l).nu=n.nu:=by
 induction l generalizing n with
 | nil=>exact⟨rfl,rfl,rfl⟩
 | cons d l ih=>
  have b:=ih (n.sendD t d);have c:=zxh n t d;exact⟨b.1.trans c.1,b.2.1.trans c.2.1,b.2.2.trans c.2.2⟩
theorem znf (n:Nd)(k:Nat):(n.againTo k).k=n.k/\(n.againTo k).vot=n.vot:=by
 induction k with
 | zero=>exact⟨rfl,rfl⟩
 | succ k ih=>
  rw[Nd.againTo]
  split
  .exact ih
  .have b:=zqZ (n.againTo k) k n.k.own.bl;have c:=ztY ((n.againTo k).sendB k n.k.own.bl) k (zcl n.k.own);exact⟨c.1.trans (b.1.trans ih.1),c.2.1.trans (b.2.1.trans ih.2)⟩
theorem U8L.of {l:List zi}(h:∀b∈bss l,∀x∈b,0<=x/\x<=255):U8L l:=λp c=>h p.bs (List.mem_map.2 ⟨p,c,rfl⟩)
theorem zo.ownU (h:zo w U F o T fc x):U8L x.own.bl/\U8L x.own.pl:=
 ⟨U8L.of (λb c=>h.inv.ou8 b (List.mem_append_left _ c)),U8L.of (λb c=>h.inv.ou8 b (List.mem_append_right _ c))⟩
theorem zo.own_gm (h:zo w U F o T fc x)(b:x.v.k.own.hf=0):GM (zq U w) (zeO x.own):=
 ztV h.hdr.hat (by rw[Ct.hf_v];exact b) h.ownU.1 h.ownU.2
theorem zrY (x:NM)(w:World)(U:Nat->Bool)(F o:Nat)(T:TypeId)(r:Array Value)(h:zo w U F o T r x)(M:x.v.k.own.hf=0) :
  Calls prog 111 #[P_ F o] w λe w'=>(∃v,e=.returned v)/\zal w U F o T r x w' (x.v.againTo 4):=by
 go_in;go_wp2_with fail
 go_loopw [3] (λj wr=>∃(k:Nat) (c:Nat->Bool) (d:Array Value) (b:NM),k<=4/\j=I_ k/\zo wr c F o T d b/\NTo U c w wr F o r d x b/\Hid (b.v=x.v.againTo k)) (λj _=>4-(intOf j).toNat)
 case atStart=>exact⟨0,U,r,x,by decide,rfl,h,NTo.refl _ _ _ _ _ _,rfl⟩
 case round=>
  obtain⟨k,c,d,b,hk,rfl,s,B,p⟩:=hrel;by_cases hlt:k<4
  .have aa:(k:Int)<4:=by omega
   have O:Hid (b.vot=x.v.vot):=by show b.v.vot=_;rw[p.out];exact(znf _ _).2
   have H:Hid (b.own.v=x.v.k.own):=by show b.v.k.own=_;rw[p.out,(znf _ _).1]
   have g:=zjp b k wr c F o T d s;have q:Hid (x.v.againTo (k+1)=if(k:Int)∈b.vot then x.v.againTo k else((x.v.againTo k).sendB k b.own.v.bl).send k (zcl b.own.v)):=by show _=_;rw[O.out,H.out];rfl
   by_cases hm:(k:Int)∈b.vot;rw[dT_ hm]at g;rw[if_pos hm]at q
   rotate_left
   rw[dF_ hm]at g;rw[if_neg hm,<-p.out]at q
   rotate_left
   all_goals
    clear hm;go_wp2_with fail
    refine g.mono ?_;rintro _ w2⟨rfl,m⟩;dsimp only;clear g
   .go_wp2_with fail
    go_roundw
    case rel=>exact⟨k+1,c,d,b,by omega,by go_num,s.below m,B.trans (NTo.below (F:=F) (o:=o) c d b m),by show _=_;rw[q.out];exact p.out⟩
    case measure=>simp[intOf];omega
   .have l:=s.below m;have X:=B.trans (NTo.below (F:=F) (o:=o) c d b m);have u:=l.cell 7 _ rfl;have y:=l.cell 8 _ rfl;have z:=l.cell 9 _ rfl;have t:=l.cell 10 _ rfl;have C:=zne b b.own k w2 c F o T d l l.hdr.hat ⟨by omega,by omega⟩;go_wp2_with fail
    refine C.mono ?_;rintro e Y⟨⟨v,f⟩,U3,fc3,x3,h3,n3,v3⟩;subst f;dsimp only;clear C u y z t;have R:=X.trans n3;have G:Hid (x3.own.v=b.own.v):=by show x3.v.k.own=_;rw[v3,(zqZ _ _ _).1];rfl
    have I:Hid _:=v3;clear v3;have N:Hid (x3.v.k.own.hf=0):=by show x3.own.v.hf=0;rw[G.out,H.out];exact M
    have u:=h3.cell 7 _ rfl;have y:=h3.cell 8 _ rfl;have z:=h3.cell 9 _ rfl;have t:=h3.cell 10 _ rfl;have D:=zmz x3.own Y;go_wp2_with fail
    refine D.mono ?_;rintro _ Z⟨rfl,A⟩;dsimp only;clear D u y z t;have L:=h3.below A;have E:=zeN x3 (zeO x3.own) k Z U3 F o T fc3 L ((h3.own_gm N.out).sub (h3.later A)) ⟨by omega,by omega⟩;go_wp2_with fail
    refine E.mono ?_;rintro e w5⟨⟨v,f⟩,U5,fc5,x5,h5,n5,v5⟩;subst f;dsimp only;clear E;have V:=(R.trans (NTo.below (F:=F) (o:=o) U3 fc3 x3 A)).trans n5;have J:Hid (x5.v=x.v.againTo (k+1)):=by
     show _=_;rw[v5,q.out,I.out];show(Nd.sendB b.v k (bss b.own.bl)).send k (zcl x3.own.v)=_;rw[G.out];rfl
    clear v5;go_wp2_with fail
    go_roundw
    case rel=>exact⟨k+1,U5,fc5,x5,by omega,by go_num,h5,V,J⟩
    case measure=>simp[intOf];omega
  .obtain rfl:k=4:=by omega
   go_wp2_with fail
   go_end0;exact⟨⟨_,rfl⟩,c,d,b,s,B,p.out⟩
def zi3 (nu:Int)(s:Nat):NM:=⟨nu,false,1,none,0,[],none,0,[],none,0,[],s,O_,O_,[],[],⟨0,0,none,0,[],none,0,[],none,0,[]⟩,⟨0,0,⟨none,0,[]⟩⟩,none,0,[],none,0,[],0,none,0,[],0⟩
def zbZ (nu:Int)(s:Nat):Array Value:=#[I_ nu,.bool false,I_ 1,O_,O_,O_,(P_ s 0),I_ 0,I_ 0,O_,O_,I_ 0,I_ 0,O_,O_,O_,I_ 0,O_,I_ 0]
theorem zjW {f:Int}(h:0<=f/\f<4):za3 (Nd.z f):=
 ⟨h,(by decide:zaO 1 []=0),nZ_ _,(λb d=>by cases d),(by decide:zbV []=0),.inl rfl,rfl,⟨nZ_ _,(λv l=>by cases l),List.nodup_nil⟩,nZ_ _,nR_ _,nZ_ _,⟨Int.le_refl _,by show(0:Int)<4;decide⟩,nZ_ _,(λs j=>by cases j),(λx m=>by cases m),(λb d=>by cases d),(λc g=>by cases g)⟩
theorem ztZ (w:World):HAt w none 0 [] none 0 []:=zgY w
theorem zvJ {N s:Nat}{d:Int}(f:w.heap[N]? = some (.cells fc T (0,0)))(u:o+19<=fc.size)(m:∀j,j<19->fc[o+j]? = (zbZ d s)[j]?)(t:w.heap[s]? = some (.cells #[O_,O_] 152 (0,0)))(y:U N=true)(z:U s=true)(q:s≠N)(l:Bnd U w)(g:zbJ (zq U w))(r:0<=d/\d<4):zo w U N o T fc (zi3 d s):=by
 refine⟨f,u,λj p=>?_,y,λb e=>?_,l,g,⟨nR_ _,nZ_ _,(λ_=>rfl),zhL _⟩,oN_ _ _ _ _,(λx c=>by cases c),oN_ _ _ _ _,(λx c=>by cases c),⟨t,oN_ _ _ _ _,oN_ _ _ _ _,(λx c=>by cases c),(λx c=>by cases c),rfl,(λx c=>by cases c)⟩,⟨ztZ _,⟨.inl rfl⟩,by show(0:Nat)<=_;omega⟩,zgx _,oN_ _ _ _ _,zgx _,(λx c=>by cases c),oN_ _ _ _ _,(λx c=>by cases c),zjW r⟩
 .rw[m j p];show(zbZ d s)[j]? = (zi3 d s).cs[j]?;rw[<-Array.getElem?_toList]
  rfl
 .rcases e with e|e|e|e|e|e|e
  .have e:b=s:=e;rw[e];exact⟨z,q⟩
  all_goals cases e
theorem zhM:(prog.info? 117).map (·.size)=some 19:=by kernel_rfl
theorem zoP (b:Int)(w:World):Calls prog 54 #[I_ b] w λe w'=>∃s,e=.returned (.agg (zbZ b s))/\w'.heap[s]? = some (.cells #[O_,O_] 152 (0,0))/\w.heap.size<=s/\Below w.heap.size w w':=by
 refine kO_ ?A0 ?_;exact Obj.cells #[I_ 0,.bool false,I_ 0,O_,O_,O_,.pointer none,I_ 0,I_ 0,O_,O_,I_ 0,I_ 0,O_,O_,O_,I_ 0,O_,I_ 0] 117;have c:=hX_ w ?A0 (.cells #[O_,O_] 152);have f:=hY_ w ?A0 (.cells #[O_,O_] 152);have d:Below w.heap.size w ((w.alloc ?A0).alloc (.cells #[O_,O_] 152)):=((bR_ _ _).alloc (nR_ _) _).alloc (by simp) _;go_in;refine kA_ ?B0 ?_;exact #[I_ b,.bool false,I_ 1,O_,O_,O_,(P_ (w.heap.size+1) 0),I_ 0,I_ 0,O_,O_,I_ 0,I_ 0,O_,O_,O_,I_ 0,O_,I_ 0];go_wp2_with (refine wpList_store_row rfl 117 _ _ rfl w.heap.size ?B0 rfl rfl 117 _ c zhM rfl (by simp[Value.oneCell']) ?_)
 refine bP_ (v:=.agg ?B0) (results_cell_row (fn:=Tryz.f54) (p:=2) (ty:=117) rfl _ _ w.heap.size 117 _ (0,0) _ rfl (setRow_heap _ _ _ _ _ _ c) underlying117 rfl zhM) rfl ⟨w.heap.size+1,rfl,?_,by omega,(Upd.setRow c).below d d.size (by omega)⟩;rw[setRow_other _ w.heap.size (w.heap.size+1) _ (by omega)];exact f
variable {n:Nat}
theorem zjX {t:List Int}(r:List Int)(h:t.length=n):tT n (t++r,false)=t/\nx n (t++r,false)=(r,false):=by
 obtain⟨b,c,d⟩:=zke (n:=n) (l:=t++r) (by simp;omega);refine⟨b.trans ?_,?_⟩
 .subst h;simp
 .show(tkL n (t++r) false,tkS n (t++r) false)=(r,false);rw[c,d];subst h
  simp
theorem zeP (a:Int)(r:List Int):nB 1 (a::r,false)=a/\nx 1 (a::r,false)=(r,false):=by
 obtain⟨b,c⟩:=zjX (n:=1) (t:=[a]) r rfl;refine⟨?_,c⟩;show zbe (tT 1 ([a]++r,false))=a;rw[b];simp[zbe]
theorem zi4 (n:Int)(r:List Int):nB 3 (rd3 n++r,false)=n/\nx 3 (rd3 n++r,false)=(r,false):=by
 obtain⟨b,c⟩:=zjX (n:=3) (t:=rd3 n) r rfl;refine⟨?_,c⟩;show zbe (tT 3 (rd3 n++r,false))=n;rw[b];simp[zbe,rd3];omega
theorem zyd (b:List zi)(r:List Int)(h:∀p∈b,p.bs.length=32)(k:Nat)(q:k<=b.length):dgL (zat b++r) false k=(zat (b.drop k)++r,false)/\dgD (zat b++r) false k=(b.take k).map (·.bs):=by
 induction k with
 | zero=>exact⟨rfl,rfl⟩
 | succ k ih=>
  obtain⟨c,f⟩:=ih (by omega);have j:b.drop k=b[k]::b.drop (k+1):=List.drop_eq_getElem_cons (by omega);have g:(b[k]).bs.length=32:=h _ (gM_ (by omega));obtain⟨l,o⟩:=zjX (n:=32) (t:=(b[k]).bs) (zat (b.drop (k+1))++r) g;have d:zat (b.drop k)++r=(b[k]).bs++(zat (b.drop (k+1))++r):=by rw[j,zat,List.append_assoc]
  constructor
  .show(tkL 32 (dgL (zat b++r) false k).1 (dgL (zat b++r) false k).2,tkS 32 (dgL (zat b++r) false k).1 (dgL (zat b++r) false k).2)=_;rw[c];show(tkL 32 (zat (b.drop k)++r) false,tkS 32 (zat (b.drop k)++r) false)=_;rw[d];exact o
  .show dgD (zat b++r) false k++[tkT 32 (dgL (zat b++r) false k).1 (dgL (zat b++r) false k).2]=_;rw[c,f];show _++[tkT 32 (zat (b.drop k)++r) false]=_;rw[d];have m:tkT 32 ((b[k]).bs++(zat (b.drop (k+1))++r)) false=(b[k]).bs:=l;rw[m,tS_ (by omega),List.map_append]
   rfl
theorem zoQ (b:List zi)(r:List Int)(h:∀p∈b,p.bs.length=32):dgs (zbh b++r,false)=b.map (·.bs)/\dgS (zbh b++r,false)=(r,false):=by
 have j:zbh b++r=(b.length:Int)::(zat b++r):=rfl;obtain⟨l,d⟩:=zeP (b.length:Int) (zat b++r);have c:dN ((b.length:Int)::(zat b++r)) false=b.length:=by
  show(nB 1 ((b.length:Int)::(zat b++r),false)).toNat=_;rw[l];omega
 obtain⟨f,g⟩:=zyd b r h b.length (nR_ _);rw[j]
 constructor
 refine K_ (?A0:St) ?_;exact nx 1 ((b.length:Int)::(zat b++r),false)
 .show dgD (?A0).1 (?A0).2 (dN ((b.length:Int)::(zat b++r)) false)=_;rw[d,c,g,tL_ (nR_ _)]
 .show dgL (?A0).1 (?A0).2 (dN ((b.length:Int)::(zat b++r)) false)=_;rw[d,c,f,List.drop_of_length_le (nR_ _)]
  rfl
theorem zye (vl r:List Int)(k:Nat)(j:k<=vl.length):nL (vl++r,false) k=(vl.drop k++r,false)/\nV (vl++r,false) k=vl.take k:=by
 induction k with
 | zero=>exact⟨rfl,rfl⟩
 | succ k ih=>
  obtain⟨b,d⟩:=ih (by omega);have c:vl.drop k=vl[k]::vl.drop (k+1):=List.drop_eq_getElem_cons (by omega);obtain⟨f,g⟩:=zeP (vl[k]) (vl.drop (k+1)++r)
  constructor
  .show nx 1 (nL (vl++r,false) k)=_;rw[b,c];exact g
  .show nV (vl++r,false) k++[nB 1 (nL (vl++r,false) k)]=_;rw[b,d,c,tS_ (by omega)];show _++[nB 1 (vl[k]::(vl.drop (k+1)++r),false)]=_;rw[f]
theorem zxi (s:ByteArray):zai (tb s)=s:=by
 apply zhf
 rw[ByteArray.toList_eq,ByteArray.toList_eq,zgr,tb];rw[List.map_map]
 conv=>rhs;rw[<-List.map_id s.data.toList]
 refine List.map_congr_left λx b=>?_
 simp
theorem zyf (ss:List ByteArray)(r:List Int)(k:Nat)(l:k<=ss.length):bL (zbc ss++r,false) k=(zbc (ss.drop k)++r,false)/\bT (zbc ss++r,false) k=ss.take k:=by
 induction k with
 | zero=>exact⟨rfl,rfl⟩
 | succ k ih=>
  obtain⟨b,g⟩:=ih (by omega);have j:ss.drop k=ss[k]::ss.drop (k+1):=List.drop_eq_getElem_cons (by omega);have c:zbc (ss.drop k)++r=((ss[k]).size:Int)::(tb (ss[k])++(zbc (ss.drop (k+1))++r)):=by rw[j];simp[zbc]
  obtain⟨d,f⟩:=zeP ((ss[k]).size:Int) (tb (ss[k])++(zbc (ss.drop (k+1))++r));obtain⟨u1,u2⟩:=zjX (n:=(ss[k]).size) (t:=tb (ss[k])) (zbc (ss.drop (k+1))++r) (zeK _)
  constructor
  .show nx (nB 1 (bL (zbc ss++r,false) k)).toNat (nx 1 (bL (zbc ss++r,false) k))=_;rw[b,c,d,f];exact u2
  .show bT (zbc ss++r,false) k++[zai (tT (nB 1 (bL (zbc ss++r,false) k)).toNat (nx 1 (bL (zbc ss++r,false) k)))]=_;rw[b,g,c,d,f];show _++[zai (tT (ss[k]).size (tb (ss[k])++(zbc (ss.drop (k+1))++r),false))]=_;rw[u1,zxi,tS_ (by omega)]
theorem zng (au rd:Int)(bl pl:List zi)(r:List Int)(o:∀p∈bl,p.bs.length=32)(q:∀p∈pl,p.bs.length=32) :
  nB 1 (zaZ au rd bl pl++r,false)=au/\nB 3 (nx 1 (zaZ au rd bl pl++r,false))=rd/\dgs (nx 3 (nx 1 (zaZ au rd bl pl++r,false)))=bl.map (·.bs)/\dgs (dgS (nx 3 (nx 1 (zaZ au rd bl pl++r,false))))=pl.map (·.bs)/\dgS (dgS (nx 3 (nx 1 (zaZ au rd bl pl++r,false))))=(r,false):=by
 have e:zaZ au rd bl pl++r=au::(rd3 rd++(zbh bl++(zbh pl++r))):=by simp[zaZ]
 obtain⟨b,c⟩:=zeP au (rd3 rd++(zbh bl++(zbh pl++r)));obtain⟨d,f⟩:=zi4 rd (zbh bl++(zbh pl++r));obtain⟨g,j⟩:=zoQ bl (zbh pl++r) o;obtain⟨l,m⟩:=zoQ pl r q;rw[e,b,c,d,f,g,j,l,m];exact⟨rfl,rfl,rfl,rfl,rfl⟩
theorem za4 {α:Type}{l:List α}(h:n=l.length)(b:n=0):l=[]:=eN_ (by omega)
theorem zi5 (x:MV)(r:List Int)(L:MAt w x)(hc:x.car=0)(q:zaq (zab x.m)=true):pM (x.bytes++r,false)=x.c/\mS (x.bytes++r,false)=(r,false):=by
 have hb:x.bytes++r=x.m.ki::(x.m.fr::(x.m.tt::(zcG x.m x.ss x.bl x.pl x.cbl x.cpl x.ds x.vl++r))):=by simp[MV.bytes,zeL]
 rw[hb];obtain⟨f,g⟩:=zeP x.m.ki (x.m.fr::(x.m.tt::(zcG x.m x.ss x.bl x.pl x.cbl x.cpl x.ds x.vl++r)));obtain⟨j,l⟩:=zeP x.m.fr (x.m.tt::(zcG x.m x.ss x.bl x.pl x.cbl x.cpl x.ds x.vl++r));obtain⟨m,o⟩:=zeP x.m.tt (zcG x.m x.ss x.bl x.pl x.cbl x.cpl x.ds x.vl++r);have C:zD x.m x.ss x.bl x.pl x.cbl x.cpl x.vl=0:=hc;have H:=L.at';rcases zc7 C with k|k|k|k|k;rw[ziO k]at C;rw[zig k]at f g j l m o|-
 rotate_left
 rw[ziP k]at C;rw[zih k]at f g j l m o|-;obtain⟨_,_,_,_,Y,Z⟩:=zbi C
 rotate_left
 rw[ziQ k]at C;rw[zii k]at f g j l m o|-;obtain⟨_,_,g3⟩:=zho C
 rotate_left
 rw[ziR k]at C;rw[zij k]at f g j l m o|-;obtain⟨hh,_,_,_⟩:=ziN C;obtain⟨_,_,_,_,Y,Z⟩:=zbi hh
 rotate_left
 rw[zik k]at f g j l m o|-
 rotate_left
 all_goals simp[zab,zaq,k]at q
 obtain⟨d,b,c,u,y⟩:=q;have z:=za4 H.e2 d.2.2.1;have F:=za4 H.e3 d.2.2.2;have A:=za4 L.dn b.2.2;have B:=za4 H.e4 c.2.2.1;have G:=za4 H.e5 c.2.2.2;have I:=za4 H.e6 u;have e:zbY x.m.bau x.m.bnu x.ss++r=x.m.bau::(rd3 x.m.bnu++((x.ss.length:Int)::(zbc x.ss++r))):=by simp[zbY]
 obtain⟨E,s⟩:=zeP x.m.bau (rd3 x.m.bnu++((x.ss.length:Int)::(zbc x.ss++r)));obtain⟨M,J⟩:=zi4 x.m.bnu ((x.ss.length:Int)::(zbc x.ss++r));obtain⟨g1,g2⟩:=zeP (x.ss.length:Int) (zbc x.ss++r);obtain⟨N,O⟩:=zyf x.ss r x.ss.length (nR_ _);have hN:bN (x.m.bau::(rd3 x.m.bnu++((x.ss.length:Int)::(zbc x.ss++r))),false)=x.ss.length:=by
  show(nB 1 (nx 3 (nx 1 _))).toNat=_;rw[s,J,g1];omega
 have T:bS3 (x.m.bau::(rd3 x.m.bnu++((x.ss.length:Int)::(zbc x.ss++r))),false)=((x.ss.length:Int)::(zbc x.ss++r),false):=by
  show nx 3 (nx 1 _)=_;rw[s,J]
 rw[e]at f g j l m o|-;rw[pM,mS,f,if_pos k,if_pos k,g,j,l,m,o,E,s,M,T,hN,g2,N,O,tL_ (nR_ _),List.drop_of_length_le (nR_ _)]
 rotate_left
 obtain⟨d,b,c,u,y⟩:=q;have z:=za4 H.e1 d.2.2;have A:=za4 L.dn b.2.2;have B:=za4 H.e4 c.2.2.1;have G:=za4 H.e5 c.2.2.2;have I:=za4 H.e6 u;obtain⟨E,s,U,V,X⟩:=zng x.m.hau x.m.hrd x.bl x.pl r Y Z;have p:¬x.m.ki=1:=by omega
 rw[pM,mS,f,if_neg p,if_neg p,if_pos k,if_pos k,g,j,l,m,o,E,s,U,V,X]
 rotate_left
 obtain⟨d,b,c,u,y⟩:=q;have z:=za4 H.e1 d.2.2;have F:=za4 H.e2 b.2.2.1;have A:=za4 H.e3 b.2.2.2;have B:=za4 H.e4 c.2.2.1;have G:=za4 H.e5 c.2.2.2;have I:=za4 H.e6 u;have e:[x.m.sau]++rd3 x.m.srd++x.ds++r=x.m.sau::(rd3 x.m.srd++(x.ds++r)):=by simp
 obtain⟨E,s⟩:=zeP x.m.sau (rd3 x.m.srd++(x.ds++r));obtain⟨M,J⟩:=zi4 x.m.srd (x.ds++r);obtain⟨N,O⟩:=zjX (n:=32) (t:=x.ds) r (by have:=L.dn;omega);rw[e]at f g j l m o|-;have p:¬x.m.ki=1:=by omega
 have D:¬x.m.ki=2:=by omega
 rw[pM,mS,f,if_neg p,if_neg p,if_neg D,if_neg D,if_pos k,if_pos k,g,j,l,m,o,E,s,M,J,N,O]
 rotate_left
 obtain⟨d,b,c,y⟩:=q;have z:=za4 H.e1 d.2.2;have F:=za4 H.e2 b.2.2.1;have A:=za4 H.e3 b.2.2.2;have B:=za4 L.dn c.2.2;have e:zeE x.m.cau x.m.crd x.cbl x.cpl x.vl++r=zaZ x.m.cau x.m.crd x.cbl x.cpl++((x.vl.length:Int)::(x.vl++r)):=by simp[zeE]
 obtain⟨E,s,U,V,X⟩:=zng x.m.cau x.m.crd x.cbl x.cpl ((x.vl.length:Int)::(x.vl++r)) Y Z;obtain⟨n1,n2⟩:=zeP (x.vl.length:Int) (x.vl++r);obtain⟨N,O⟩:=zye x.vl r x.vl.length (nR_ _);have T:hS4 (zaZ x.m.cau x.m.crd x.cbl x.cpl++((x.vl.length:Int)::(x.vl++r)),false)=((x.vl.length:Int)::(x.vl++r),false):=X;have hN:cN (zaZ x.m.cau x.m.crd x.cbl x.cpl++((x.vl.length:Int)::(x.vl++r)),false)=x.vl.length:=by
  show(nB 1 (hS4 _)).toNat=_;rw[T,n1];omega
 rw[e]at f g j l m o|-;have p:¬x.m.ki=1:=by omega
 have D:¬x.m.ki=2:=by omega
 have R:¬x.m.ki=3:=by omega
 rw[pM,mS,f,if_neg p,if_neg p,if_neg D,if_neg D,if_neg R,if_neg R,if_pos k,if_pos k,g,j,l,m,o,E,s,U,V,T,hN,n2,N,O,tL_ (nR_ _),List.drop_of_length_le (nR_ _)]
 rotate_left
 obtain⟨d,b,c,u,y⟩:=q;have z:=za4 H.e1 d.2.2;have F:=za4 H.e2 b.2.2.1;have A:=za4 H.e3 b.2.2.2;have l0:=za4 L.dn c.2.2;have B:=za4 H.e4 u.2.2.1;have G:=za4 H.e5 u.2.2.2;have I:=za4 H.e6 y;obtain⟨M,J⟩:=zi4 x.m.ro r;have p:¬x.m.ki=1:=by omega
 have D:¬x.m.ki=2:=by omega
 have R:¬x.m.ki=3:=by omega
 have k4:¬x.m.ki=4:=by omega
 rw[pM,mS,f,if_neg p,if_neg p,if_neg D,if_neg D,if_neg R,if_neg R,if_neg k4,if_neg k4,g,j,l,m,o,M,J]
 rotate_left
 all_goals refine⟨?_,rfl⟩
 .simp only[MV.c,z,F,A,B,G,I,d,b,c,y,List.map_nil]
 .simp only[MV.c,z,A,B,G,I,d,b,c,y,List.map_nil]
 .simp only[MV.c,z,F,A,B,G,I,d,b,c,y,List.map_nil]
 .simp only[MV.c,z,F,A,B,d,b,c,y,List.map_nil]
 .simp only[MV.c,l0,z,F,A,B,G,I,d,b,c,u,List.map_nil]
def ap (q:List Int)(s:St):St:=(s.1++q,s.2)
theorem zoR {s:St}(q:List Int)(h:(nx n s).2=false):nx n (ap q s)=ap q (nx n s)/\tT n (ap q s)=tT n s/\s.2=false:=by
 obtain⟨l,sh⟩:=s;have h':tkS n l sh=false:=h;simp only[tkS,Bool.or_eq_false_iff,decide_eq_false_iff_not]at h';obtain⟨rfl,m⟩:=h';obtain⟨b,c,d⟩:=zke (n:=n) (l:=l) (by omega);obtain⟨f,g,j⟩:=zke (n:=n) (l:=l++q) (by simp;omega);refine⟨?_,?_,rfl⟩
 .show(tkL n (l++q) false,tkS n (l++q) false)=(tkL n l false++q,tkS n l false);rw[c,d,g,j,List.drop_append_of_le_length (by omega)]
 .show tkT n (l++q) false=tkT n l false;rw[b,f,List.take_append_of_le_length (by omega)]
theorem zyg {s:St}(q:List Int)(h:(nx n s).2=false):nB n (ap q s)=nB n s:=by
 show zbe (tT n (ap q s))=zbe (tT n s);rw[(zoR q h).2.1]
theorem zyh {s:St}(q:List Int)(k:Nat)(h:(dgL s.1 s.2 k).2=false):dgL (ap q s).1 (ap q s).2 k=ap q (dgL s.1 s.2 k)/\s.2=false:=by
 induction k with
 | zero=>exact⟨rfl,h⟩
 | succ k ih=>
  have d:(nx 32 (dgL s.1 s.2 k)).2=false:=h;obtain⟨b,_,c⟩:=zoR q d;obtain⟨f,g⟩:=ih c;refine⟨?_,g⟩;show nx 32 (dgL (ap q s).1 (ap q s).2 k)=ap q (nx 32 (dgL s.1 s.2 k));rw[f,b]
theorem zq0 {s:St}(q:List Int)(h:(dgS s).2=false):dgS (ap q s)=ap q (dgS s)/\s.2=false:=by
 obtain⟨c,b⟩:=zyh (s:=nx 1 s) q (dN s.1 s.2) h;obtain⟨d,_,f⟩:=zoR q b;refine⟨?_,f⟩;have g:dN (ap q s).1 (ap q s).2=dN s.1 s.2:=by
  show(nB 1 (ap q s)).toNat=(nB 1 s).toNat;rw[zyg q b]
 show dgL (nx 1 (ap q s)).1 (nx 1 (ap q s)).2 (dN (ap q s).1 (ap q s).2)=_;rw[g,d,c]
 rfl
end Go.Proofs.YtdnaljbnebnlhaaGreatDoor
