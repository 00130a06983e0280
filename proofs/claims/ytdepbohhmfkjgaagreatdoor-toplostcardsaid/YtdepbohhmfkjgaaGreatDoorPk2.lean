import Derived.Test.YtdepbohhmfkjgaaGreatDoorPk1
set_option maxRecDepth 100000
set_option maxHeartbeats 4000000
namespace Go.Proofs.YtdepbohhmfkjgaaGreatDoor
open Go.RowKit Tryz
variable {w w':World}{sa:Option Addr}
structure zi where
 sa:Option Addr
 cap:Nat
 bs:List Int
def zi.val (p:zi):Value:=.slice p.sa p.bs.length p.cap
structure zbG (w:World)(sa:Option Addr)(ps:List zi):Prop where
 cells:ps=[]∨∃ sb so,sa=some ⟨sb,so,none⟩∧∀ j (h:j<ps.length),C_ w sb (so+j) (.slice (ps[j]).sa (ps[j]).bs.length (ps[j]).cap)
 each:∀ p∈ps,zf w p.sa p.cap p.bs
theorem zbG.below {f:List zi}(h:zbG w sa f)(b:B_ w w'):zbG w' sa f:=by
 refine ⟨?_,fun p m=>(h.each p m).below b⟩;rcases h.cells with h|⟨g,l,rfl,c⟩
 ·exact .inl h
 ·exact .inr ⟨g,l,rfl,fun j d=>(b.cell (p:=⟨g,l+j,none⟩) (block_lt_of_cell (c j d))).trans (c j d)⟩
variable {cap:Nat}
structure zy (w:World)(sa:Option Addr)(cap:Nat)(ps:List zi):Prop where
 le:ps.length≤cap
 max:cap≤9223372036854775807
 small:ps.length≤9000000000000000000
 some:cap=0∨∃ sb so,sa=some ⟨sb,so,none⟩
 parts:zbG w sa ps
theorem zy.below {b:List zi}(h:zy w sa cap b)(c:B_ w w'):zy w' sa cap b:=⟨h.le,h.max,h.small,h.some,h.parts.below c⟩
variable {vl:List Int}{va:Option Addr}
structure zav (w:World)(va:Option Addr)(vl:List Int):Prop where
 cells:vl=[]∨∃ sb so,va=some ⟨sb,so,none⟩∧∀ j,j<vl.length→C_ w sb (so+j) (I_ (vl.getD j 0))
theorem zav.below (h:zav w va vl)(g:B_ w w'):zav w' va vl:=by
 refine ⟨?_⟩;rcases h.cells with h|⟨d,f,rfl,b⟩
 ·exact .inl h
 ·exact .inr ⟨d,f,rfl,fun j c=>(g.cell (p:=⟨d,f+j,none⟩) (block_lt_of_cell (b j c))).trans (b j c)⟩
def txL (bs:List Int):List UInt8:=(zaf bs).toList
theorem zd0 (b ys:List Int)(f g:Option Addr)(n m c d:Nat)(w:World)(p:n=b.length)(o:m=ys.length)(j:zf w f c b)(l:zf w g d ys) :
  Calls prog 137 #[.slice f n c,.slice g m d] w fun e w'=>e=.returned (.bool (decide (txL b=txL ys)))∧w=w':=by
 have q:=zf9 w f n c b p j;have r:=zf9 w g m d ys o l;clear p o j l;unfold txL;generalize zaf b=A at *;generalize zaf ys=B at *;go_in;go_wp2_with fail
 go_ret;refine ⟨zS ?_,rfl⟩;by_cases h:A.toList=B.toList<;>simp[h]
def zcu (ps:List zi)(k:Nat):zi:=ps.getD k ⟨none,0,[]⟩
theorem zfT (b:List zi)(k:Nat)(h:k<b.length):zcu b k=b[k]:=by simp[zcu,h]
def zfn (ps:List zi)(k:Nat):Bool:=(List.range k).any fun j=>decide (txL (zcu ps j).bs=txL (zcu ps k).bs)
def zci (ps:List zi)(k:Nat):Int:=if (zcu ps k).bs.length≠32 then 4 else if zfn ps k then 7 else 0
def zbd (ps:List zi):Nat→Int
 | 0=>0
 | k+1=>if zbd ps k≠0 then zbd ps k else zci ps k
def zbV (ps:List zi):Int:=zbd ps ps.length
theorem zml (b:List zi)(k m:Nat)(h:zbd b k≠0)(c:k≤m):zbd b m=zbd b k:=by
 induction m with
 | zero=>
  obtain rfl:k=0:=by omega
  rfl
 | succ m ih=>
  rcases Nat.lt_or_ge k (m+1) with g|g
  ·rw[zbd,ih (by omega),if_pos h]
  ·obtain rfl:k=m+1:=by omega
   rfl
theorem zuq (b:List zi)(k:Nat)(d:k<b.length)(c:zbd b k=0)(h:zci b k≠0):zbV b=zci b k:=by
 have e:zbd b (k+1)=zci b k:=by rw[zbd,c];simp
 rw[zbV,zml b (k+1) b.length (by rw[e];exact h) d,e]
theorem zmm (b ys:List Int)(f j:Option Addr)(n m c d g:Nat)(w:World)(r:n=b.length)(q:m=ys.length)(l:zf w f c b)(o:zf w j d ys)(s:C_ w g 0 (.slice j m d)) :
  Calls prog 136 #[.slice f n c,(P_ g 0)] w fun e w'=>e=.returned (.bool (decide (txL b=txL ys)))∧w=w':=by
 go_in;go_wp2_with fail
 refine (zd0 b ys _ _ _ _ _ _ w (by first|exact r|rfl) (by first|exact q|rfl) l o).mono ?_;rintro _ t ⟨rfl,rfl⟩;dsimp only;go_wp2_with fail
 go_ret;exact ⟨rfl,rfl⟩
def zbW (rd:Int)(n:Nat):Int:=if (rd=1∧0<n)∨(1<rd∧n<3) then 10 else 0
def zK (au rd:Int)(bl pl:List zi):Int:=if ¬(0≤au∧au<4)∨¬(1≤rd∧rd≤1048576) then 2 else if 3<bl.length∨4<pl.length then 1 else if zbV bl≠0 then zbV bl else if zbV pl≠0 then zbV pl else zbW rd pl.length
def za4 (au rd:Int)(n:Nat):Int:=if ¬(0≤au∧au<4)∨¬(1≤rd∧rd≤1048576) then 2 else if n≠32 then 4 else 0
theorem zfF (au rd:Int)(d:Option Addr)(n c:Nat)(w:World) :
  Calls prog 76 #[.agg #[I_ au,I_ rd,.slice d n c]] w fun e w'=>e=.returned (I_ (za4 au rd n))∧B_ w w':=by
 by_cases ha:0≤au∧au<4
 ·by_cases hr:1≤rd∧rd≤1048576
  ·by_cases hn:n=32;subst hn;have b:Hid (za4 au rd 32=0):=by show _=_;simp[za4,ha,hr]
   rotate_left
   have b:Hid (za4 au rd n=4):=by show _=_;simp[za4,ha,hr,hn]
   have f:¬(n:Int)=32:=by omega
   rotate_left
   all_goals
    go_in;go_wp2_with (first|(go_at_call 55;refine (zdM _ true _ (by simp[ha])).mono ?_;rintro e w' ⟨rfl,rfl⟩)|(go_at_call 78;refine (zdn _ true _ (by simp[hr])).mono ?_;rintro e w' ⟨rfl,rfl⟩))
    go_ret;exact ⟨zp b.out.symm,(bR_ _ _).alloc (nR_ _) _⟩
  ·have b:Hid (za4 au rd n=2):=by show _=_;simp[za4,hr]
   go_in;go_wp2_with (first|(go_at_call 55;refine (zdM _ true _ (by simp[ha])).mono ?_;rintro e w' ⟨rfl,rfl⟩)|(go_at_call 78;refine (zdn _ false _ (by simp[hr])).mono ?_;rintro e w' ⟨rfl,rfl⟩))
   go_ret;exact ⟨zp b.out.symm,(bR_ _ _).alloc (nR_ _) _⟩
 ·have b:Hid (za4 au rd n=2):=by show _=_;simp[za4,ha]
  go_in;go_wp2_with (first|(go_at_call 55;refine (zdM _ false _ (by simp[ha])).mono ?_;rintro e w' ⟨rfl,rfl⟩)|(go_at_call 78;refine (zdn _ true _ (by simp[hr])).mono ?_;rintro e w' ⟨rfl,rfl⟩))
  go_ret;exact ⟨zp b.out.symm,(bR_ _ _).alloc (nR_ _) _⟩
end Go.Proofs.YtdepbohhmfkjgaaGreatDoor
