import Derived.Shelf.SlSortCmp.WholeK
import Derived.Test.YtefkegpbpaoadaaGreatDoorProg
import Derived.Test.YtefkegpbpaoadaaGreatDoorChecked
import Derived.Test.YtefkegpbpaoadaaGreatDoorGE
set_option linter.unusedVariables false
set_option linter.unusedSimpArgs false
set_option maxRecDepth 100000
noncomputable section
namespace Go.Proofs
open Go.Shelf
def Tryz.ajq:Go.Shelf.Ren:=⟨fun | 14=>174 | 20=>201 | 21=>202 | 22=>203 | 23=>204 | 24=>205 | 25=>206 | 26=>207 | 27=>208 | 46=>221 | 47=>222 | 48=>223 | 49=>224 | 50=>225 | 15=>175 | 57=>228 | 28=>209 | 29=>210 | n=>n,fun | 24=>239 | 22=>232 | 3=>3 | 25=>242 | 4=>4 | 0=>0 | 46=>314 | 45=>313 | 50=>152 | 66=>331 | 39=>48 | 55=>208 | 70=>253 | 76=>337 | 77=>338 | 53=>236 | 5=>5 | 9=>9 | n=>n,fun | n=>n⟩
theorem Tryz.sortRv:Go.Proofs.SlLaysF0.n14 Tryz.prog Tryz.ajq:={
 mixed:=by kernel_rfl
 f14:=⟨Tryz.f174.name,by decide,Tryz.func174.trans (congrArg some (by kernel_rfl))⟩
 f15:=Tryz.func175.trans (congrArg some (by kernel_rfl))
 f20:=⟨Tryz.f201.name,by decide,Tryz.func201.trans (congrArg some (by kernel_rfl))⟩
 f21:=⟨Tryz.f202.name,by decide,Tryz.func202.trans (congrArg some (by kernel_rfl))⟩
 f22:=⟨Tryz.f203.name,by decide,Tryz.func203.trans (congrArg some (by kernel_rfl))⟩
 f23:=⟨Tryz.f204.name,by decide,Tryz.func204.trans (congrArg some (by kernel_rfl))⟩
 f24:=⟨Tryz.f205.name,by decide,Tryz.func205.trans (congrArg some (by kernel_rfl))⟩
 f25:=⟨Tryz.f206.name,by decide,Tryz.func206.trans (congrArg some (by kernel_rfl))⟩
 f26:=⟨Tryz.f207.name,by decide,Tryz.func207.trans (congrArg some (by kernel_rfl))⟩
 f27:=⟨Tryz.f208.name,by decide,Tryz.func208.trans (congrArg some (by kernel_rfl))⟩
 f28:=Tryz.func209.trans (congrArg some (by kernel_rfl))
 f29:=Tryz.func210.trans (congrArg some (by kernel_rfl))
 f46:=⟨Tryz.f221.name,by decide,Tryz.func221.trans (congrArg some (by kernel_rfl))⟩
 f47:=Tryz.func222.trans (congrArg some (by kernel_rfl))
 f48:=Tryz.func223.trans (congrArg some (by kernel_rfl))
 f49:=⟨Tryz.f224.name,by decide,Tryz.func224.trans (congrArg some (by kernel_rfl))⟩
 f50:=⟨Tryz.f225.name,by decide,Tryz.func225.trans (congrArg some (by kernel_rfl))⟩
 f57:=⟨Tryz.f228.name,by decide,Tryz.func228.trans (congrArg some (by kernel_rfl))⟩
 t0:=Tryz.underlying0
 a0:=Tryz.isAgg0
 z0:=Tryz.sizeOf0
 v0:=Tryz.zeroValue0
 t3:=Tryz.underlying3
 a3:=Tryz.isAgg3
 z3:=Tryz.sizeOf3
 v3:=Tryz.zeroValue3
 t4:=Tryz.underlying4
 a4:=Tryz.isAgg4
 z4:=Tryz.sizeOf4
 v4:=Tryz.zeroValue4
 t5:=Tryz.underlying5
 a5:=Tryz.isAgg5
 z5:=Tryz.sizeOf5
 v5:=Tryz.zeroValue5
 t9:=Tryz.underlying9
 a9:=Tryz.isAgg9
 z9:=Tryz.sizeOf9
 v9:=Tryz.zeroValue9
 t22:=Tryz.underlying232
 a22:=Tryz.isAgg232
 z22:=Tryz.sizeOf232
 v22:=Tryz.zeroValue232
 t25:=Tryz.underlying242
 a25:=Tryz.isAgg242
 z25:=Tryz.sizeOf242
 v25:=Tryz.zeroValue242
 t39:=Tryz.underlying48
 a39:=Tryz.isAgg48
 z39:=Tryz.sizeOf48
 v39:=Tryz.zeroValue48
 t45:=Tryz.underlying313
 a45:=Tryz.isAgg313
 z45:=Tryz.sizeOf313
 v45:=Tryz.zeroValue313
 t46:=Tryz.underlying314
 a46:=Tryz.isAgg314
 z46:=Tryz.sizeOf314
 v46:=Tryz.zeroValue314
 t50:=Tryz.underlying152
 a50:=Tryz.isAgg152
 z50:=Tryz.sizeOf152
 v50:=Tryz.zeroValue152
 t53:=Tryz.underlying236
 a53:=Tryz.isAgg236
 z53:=Tryz.sizeOf236
 v53:=Tryz.zeroValue236
 t55:=Tryz.underlying208
 a55:=Tryz.isAgg208
 z55:=Tryz.sizeOf208
 v55:=Tryz.zeroValue208
 t66:=Tryz.underlying331
 a66:=Tryz.isAgg331
 z66:=Tryz.sizeOf331
 v66:=Tryz.zeroValue331
 t70:=Tryz.underlying253
 a70:=Tryz.isAgg253
 z70:=Tryz.sizeOf253
 v70:=Tryz.zeroValue253
 t76:=Tryz.underlying337
 a76:=Tryz.isAgg337
 z76:=Tryz.sizeOf337
 v76:=Tryz.zeroValue337
 t77:=Tryz.underlying338
 a77:=Tryz.isAgg338
 z77:=Tryz.sizeOf338
 v77:=Tryz.zeroValue338 }
end Go.Proofs
namespace Go.Proofs.YtefkegpbpaoadaaGreatDoor.Sub
open Go.Eng
theorem gy {α:Type} {b:Bool} {x:T α} {v:α} (h:(T.ite none b x .fail).eval=some v):b=true/\x.eval=some v:=by
 cases b with
 | true=>exact ⟨rfl,h⟩
 | false=>cases h
abbrev Rv:Type:=Int × Int × Int
def lt3 (a b:Rv):Bool:=bif a.1 != b.1 then decide (a.1<b.1) else bif a.2.1 != b.2.1 then decide (a.2.1<b.2.1) else decide (a.2.2<b.2.2)
theorem sP (a b:Rv):lt3 a b=true↔a.1<b.1\/(a.1=b.1/\(a.2.1<b.2.1\/(a.2.1=b.2.1/\a.2.2<b.2.2))):=by
 unfold lt3;by_cases h:a.1=b.1
 ·rw [bne_eq_false_iff_eq.2 h];by_cases h2:a.2.1=b.2.1
  ·rw [bne_eq_false_iff_eq.2 h2];simp only [cond_false,By];omega
  ·rw [bne_iff_ne.2 h2];simp only [cond_false,cond_true,By];omega
 ·rw [bne_iff_ne.2 h];simp only [cond_true,By];omega
theorem nc (a b:Rv):lt3 a b=false↔¬ (a.1<b.1\/(a.1=b.1/\(a.2.1<b.2.1\/(a.2.1=b.2.1/\a.2.2<b.2.2)))):=by
 rw [<- sP,Bool.not_eq_true]
theorem oy (a:Rv):lt3 a a=false:=by rw [nc];omega
theorem Fh {a b c:Rv} (h:lt3 a b=true) (k:lt3 b c=true):lt3 a c=true:=by rw [sP] at *;omega
theorem nk {a b:Rv} (h:lt3 a b=true):lt3 b a=false:=by rw [sP] at h;rw [nc];omega
theorem QX {a b:Rv} (h:lt3 a b=false) (k:lt3 b a=false):a=b:=by
 rw [nc] at *
 obtain ⟨a1,a2,a3⟩:=a;obtain ⟨b1,b2,b3⟩:=b;simp only [No];simp only at h k;omega
theorem lO {a b c:Rv} (h:lt3 a b=false) (k:lt3 b c=false):lt3 a c=false:=by rw [nc] at *;omega
def G (l:List Rv) (i:Nat):Rv:=l.getD i (0,0,0)
theorem acx {l:List Rv} {i:Nat} (h:i<l.length):G l i=l[i]:=by
 unfold G;rw [IT,OF h];rfl
def Hp (l:List Rv) (n:Nat):Prop:=∀ k,0<k->k<n->lt3 (G l ((k - 1) / 2)) (G l k)=false
theorem Hp.top {l:List Rv} {n:Nat} (h:Hp l n):∀ (k:Nat),k<n->lt3 (G l 0) (G l k)=false:=by
 intro k
 induction k using Nat.strongRecOn with
 | ind k ih =>
  intro hk;by_cases q:k=0
  ·rw [q];exact oy _
  ·exact lO (ih ((k - 1) / 2) (by omega) (by omega)) (h k (by omega) hk)
def sw (l:List Rv) (i j:Nat):List Rv:=(l.set i (G l j)).set j (G l i)
theorem F7 (l:List Rv) (i j:Nat):(sw l i j).length=l.length:=by simp [sw]
theorem zx {l:List Rv} {i j:Nat} (hi:i<l.length) (hj:j<l.length):(sw l i j).Perm l:=by
 unfold sw;rw [acx hi,acx hj];exact List.set_set_perm hi hj
theorem vq {l:List Rv} {i j:Nat} (hi:i<l.length) (hj:j<l.length) (k:Nat):G (sw l i j) k=if k=j then G l i else if k=i then G l j else G l k:=by
 have e:(sw l i j)[k]?=if j=k then some (G l i) else if i=k then some (G l j) else l[k]?:=by
  unfold sw;rw [List.getElem?_set,ajK,List.getElem?_set,if_pos hj,if_pos hi]
 show (sw l i j).getD k _=_;rw [IT,e];by_cases h1:k=j
 ·subst h1;simp
 ·have h1':¬ j=k:=fun e=>h1 e.symm;simp only [h1,h1',if_false];by_cases h2:k=i
  ·subst h2;simp
  ·have h2':¬ i=k:=fun e=>h2 e.symm;simp only [h2,h2',if_false];unfold G;rw [IT]
structure UpI (l:List Rv) (n j:Nat):Prop where
 a:∀ k,0<k->k<n->k≠j->lt3 (G l ((k - 1) / 2)) (G l k)=false
 b:∀ k,0<k->k<n->(k - 1) / 2=j->0<j->lt3 (G l ((j - 1) / 2)) (G l k)=false
theorem UpI.done {l:List Rv} {n j:Nat} (h:UpI l n j) (hd:j=0\/lt3 (G l ((j - 1) / 2)) (G l j)=false):Hp l n:=by
 intro k hk hn;by_cases q:k=j
 ·rcases hd with d | d
  ·omega
  ·rw [q];exact d
 ·exact h.a k hk hn q
theorem UpI.step {l:List Rv} {n j:Nat} (h:UpI l n j) (hn:n=l.length) (hj:j<n) (h0:0<j) (hl:lt3 (G l ((j - 1) / 2)) (G l j)=true):UpI (sw l ((j - 1) / 2) j) n ((j - 1) / 2):=by
 have hi:(j - 1) / 2<l.length:=by omega
 have hj':j<l.length:=by omega
 have g:=vq hi hj';have nl:=nk hl;refine ⟨fun k hk hkn hne => ?_,fun k hk hkn hp hi0 => ?_⟩
 ·rw [g,g];by_cases e1:k=j
  ·subst e1;rw [if_neg (by omega),if_pos rfl,if_pos rfl];exact nl
  ·rw [if_neg e1,if_neg hne];by_cases e2:(k - 1) / 2=j
   ·rw [if_pos e2];exact h.b k hk hkn e2 h0
   ·rw [if_neg e2];by_cases e3:(k - 1) / 2=(j - 1) / 2
    ·rw [if_pos e3];have:=h.a k hk hkn e1;rw [e3] at this;exact lO nl this
    ·rw [if_neg e3];exact h.a k hk hkn e1
 ·rw [g,g];rw [if_neg (show ¬ ((j - 1) / 2 - 1) / 2=j by omega),if_neg (show ¬ ((j - 1) / 2 - 1) / 2=(j - 1) / 2 by omega)];have hpar:=h.a ((j - 1) / 2) hi0 (by omega) (by omega);by_cases e1:k=j
  ·rw [if_pos e1];exact hpar
  ·rw [if_neg e1,if_neg (by omega)];have:=h.a k hk hkn e1;rw [hp] at this;exact lO hpar this
structure DnI (l:List Rv) (n i:Nat):Prop where
 a:∀ k,0<k->k<n->(k - 1) / 2≠i->lt3 (G l ((k - 1) / 2)) (G l k)=false
 b:∀ k,0<k->k<n->(k - 1) / 2=i->0<i->lt3 (G l ((i - 1) / 2)) (G l k)=false
def kid (l:List Rv) (n i:Nat):Nat:=if 2*i+2<n/\lt3 (G l (2*i+1)) (G l (2*i+2))=true then 2*i+2 else 2*i+1
theorem NW (l:List Rv) (n i:Nat) (h:2*i+1<n):kid l n i<n/\(kid l n i - 1) / 2=i/\0<kid l n i/\∀ k,0<k->k<n->(k - 1) / 2=i->lt3 (G l (kid l n i)) (G l k)=false:=by
 unfold kid;split
 ·rename_i q;refine ⟨q.1,by omega,by omega,fun k hk hn hp => ?_⟩;by_cases e:k=2*i+2
  ·rw [e];exact oy _
  ·rw [show k=2*i+1 by omega];exact nk q.2
 ·rename_i q;refine ⟨h,by omega,by omega,fun k hk hn hp => ?_⟩;by_cases e:k=2*i+2
  ·rw [e];cases hb:lt3 (G l (2*i+1)) (G l (2*i+2))
   ·rfl
   ·exact absurd ⟨by omega,hb⟩ q
  ·rw [show k=2*i+1 by omega];exact oy _
theorem DnI.done {l:List Rv} {n i:Nat} (h:DnI l n i) (hd:n<=2*i+1\/lt3 (G l i) (G l (kid l n i))=false):Hp l n:=by
 intro k hk hn;by_cases q:(k - 1) / 2=i
 ·rcases hd with d | d
  ·omega
  ·rw [q];exact lO d ((NW l n i (by omega)).2.2.2 k hk hn q)
 ·exact h.a k hk hn q
theorem DnI.step {l:List Rv} {n i:Nat} (h:DnI l n i) (hn:n<=l.length) (hi:2*i+1<n) (hl:lt3 (G l i) (G l (kid l n i))=true):DnI (sw l i (kid l n i)) n (kid l n i):=by
 obtain ⟨k1,k2,k3,k4⟩:=NW l n i hi;generalize kid l n i=j at *
 have g:=vq (l:=l) (i:=i) (j:=j) (by omega) (by omega);have nl:=nk hl;refine ⟨fun k hk hkn hne => ?_,fun k hk hkn hp hj0 => ?_⟩
 ·rw [g,g,if_neg hne];by_cases e1:k=j
  ·rw [if_pos e1,if_pos (by rw [e1];exact k2)];exact nl
  ·rw [if_neg e1];by_cases e2:(k - 1) / 2=i
   ·rw [if_pos e2,if_neg (by omega)];exact k4 k hk hkn e2
   ·rw [if_neg e2];by_cases e3:k=i
    ·rw [if_pos e3,e3];have hi0:0<i:=by omega
     exact h.b j k3 k1 k2 hi0
    ·rw [if_neg e3];exact h.a k hk hkn e2
 ·rw [g,g,k2,if_neg (show ¬ i=j by omega),if_pos rfl,if_neg (by omega),if_neg (by omega)];have:=h.a k hk hkn (by omega);rw [hp] at this;exact this
end Go.Proofs.YtefkegpbpaoadaaGreatDoor.Sub
namespace Go.Proofs.YtefkegpbpaoadaaGreatDoor.Sub
open Go.Eng Go.RowKit
theorem mixed:Tryz.prog.follows .mixedOrders=true:=Checked.mixed Tryz.checked
abbrev KR:List K:=[.int .u32,.int .i64,.int .i64]
def rvV (x:Rv):V:=.agg [.s (.int .u32 x.1),iv x.2.1,iv x.2.2]
def B0:Cfg:=⟨Tryz.prog,lookG [],[],0⟩
theorem zM:B0.Ok:=Cfg.ok trivial trivial
def scX:Eng.Spec:=aM B0 aa 137
theorem aao:aj Tryz.prog 137 scX:=af zM mixed Tryz.func137 (by kernel_rfl) (by kernel_rfl)
def ahX:Eng.Spec:=aM B0 aa 252
theorem Wi:aj Tryz.prog 252 ahX:=af zM mixed Tryz.func252 (by kernel_rfl) (by kernel_rfl)
def lnX:Eng.Obj:=aK B0 aa 138
theorem Xy:an Tryz.prog 138 lnX:=ag zM mixed Tryz.func138 (by kernel_rfl) (by kernel_rfl)
def swX:Eng.Obj:=aK B0 aa 251
theorem aa5:an Tryz.prog 251 swX:=ag zM mixed Tryz.func251 (by kernel_rfl) (by kernel_rfl)
def puX:Eng.Obj:=aK B0 aa 254
theorem Yh:an Tryz.prog 254 puX:=ag zM mixed Tryz.func254 (by kernel_rfl) (by kernel_rfl)
def poX:Eng.Obj:=aK B0 aa 253
theorem abM:an Tryz.prog 253 poX:=ag zM mixed Tryz.func253 (by kernel_rfl) (by kernel_rfl)
def scI (i:Int):Int:=IntKind.wrap .u32 (IntKind.wrap .u32 (IntKind.wrap .u64 i)*2654435761)
def scS:Eng.Spec
 | [.s (.int .i64 i)]=>.ret (.s (.int .u32 (scI i)))
 | _=>.fail
theorem YC (i:Int):(scX [iv i]).eval=some (.s (.int .u32 (scI i))):=by
 rw [<- T.aiW (t:=scX _)];kernel_rfl
theorem Ff:aj Tryz.prog 137 scS:=aao.ai0 fun args v hfl h=>by
 clear hfl;unfold scS at h;split at h
 ·obtain rfl:=AI h;exact ⟨_,YC _,⟨rfl,rfl⟩,rfl⟩
 ·cases h
def ahS:Eng.Spec
 | [.agg [.s (.int .u32 a),.s (.int .i64 b),.s (.int .i64 c)],.agg [.s (.int .u32 x),.s (.int .i64 y),.s (.int .i64 z)]]=>.ret (.s (.bool (lt3 (a,b,c) (x,y,z))))
 | _=>.fail
theorem ah_1 (a b:Rv):T.path [true] (T.anon (ahX [rvV a,rvV b]))=some ([(a.1 != b.1,true)],.s (.bool (decide (a.1<b.1)))):=by kernel_rfl
theorem ah_2 (a b:Rv):T.path [false,true] (T.anon (ahX [rvV a,rvV b]))=some ([(a.1 != b.1,false),(a.2.1 != b.2.1,true)],.s (.bool (decide (a.2.1<b.2.1)))):=by kernel_rfl
theorem ah_3 (a b:Rv):T.path [false,false] (T.anon (ahX [rvV a,rvV b]))=some ([(a.1 != b.1,false),(a.2.1 != b.2.1,false)],.s (.bool (decide (a.2.2<b.2.2)))):=by kernel_rfl
theorem WX (a b:Rv):(ahX [rvV a,rvV b]).eval=some (.s (.bool (lt3 a b))):=by
 rw [<- T.aiW (t:=ahX _)];unfold lt3;cases h:a.1 != b.1 with
 | true=>exact T.aiU (ah_1 a b) ⟨h,trivial⟩
 | false =>
  cases k:a.2.1 != b.2.1 with
  | true=>exact T.aiU (ah_2 a b) ⟨h,k,trivial⟩
  | false=>exact T.aiU (ah_3 a b) ⟨h,k,trivial⟩
theorem V9:aj Tryz.prog 252 ahS:=Wi.ai0 fun args v hfl h=>by
 clear hfl;unfold ahS at h;split at h
 ·rename_i a b c x y z;obtain rfl:=AI h;exact ⟨_,WX (a,b,c) (x,y,z),⟨rfl,rfl⟩,rfl⟩
 ·cases h
def B1:Cfg:=⟨Tryz.prog,lookG [(252,.val ahS)],[],0⟩
theorem aeH:B1.Ok:=Cfg.ok ⟨V9,trivial⟩ trivial
def lsX:Eng.Obj:=aK B1 aa 250
theorem V6:an Tryz.prog 250 lsX:=ag aeH mixed Tryz.func250 (by kernel_rfl) (by kernel_rfl)
def rB (l:List Rv):Blk:=.lst true 239 KR l
def inR (n:Nat) (l:List Rv) (i:Int):Bool:=decide (0<=i)&&(decide (i<(n:Int))&&decide (0+i.toNat<l.length))
def ilR (l:List Rv) (i:Int):Bool:=decide (0+i.toNat<l.length)
theorem Xh (n:Nat) (i j:Int) (l:List Rv):T.path [true,true,true,true] (T.anon (lsX [.sub 0 3 0 n,iv i,iv j] [(0,rB l)]))=some ([(inR n l j,true),(ilR l j,true),(inR n l i,true),(ilR l i,true)],(.s (.bool (lt3 (G l (0+j.toNat)) (G l (0+i.toNat)))),[(0,rB l)])):=by kernel_rfl
theorem Wk (n:Nat) (i j:Int) (l:List Rv):T.path [true,true,true,true,true,true,true,true] (T.anon (swX [.sub 0 3 0 n,iv i,iv j] [(0,rB l)]))=some ([(inR n l j,true),(ilR l j,true),(inR n l i,true),(ilR l i,true),(inR n l i,true),(ilR l i,true),(inR n (l.set (0+i.toNat) (G l (0+j.toNat))) j,true),(ilR (l.set (0+i.toNat) (G l (0+j.toNat))) j,true)],(.tup [],[(0,rB ((l.set (0+i.toNat) (G l (0+j.toNat))).set (0+j.toNat) (G l (0+i.toNat))))])):=by kernel_rfl
theorem vA {n:Nat} {l:List Rv} {i:Int} (hn:n=l.length) (h0:0<=i) (h1:i<(n:Int)):inR n l i=true/\ilR l i=true:=by
 unfold inR ilR;rw [c9 h0,c9 h1,c9 (show 0+i.toNat<l.length by omega)];exact ⟨rfl,rfl⟩
def okG (n:Nat) (i j:Int) (l:List Rv):Bool:=decide (n=l.length)&&(decide (0<=i)&&(decide (i<(n:Int))&&(decide (0<=j)&&decide (j<(n:Int)))))
theorem jq {n:Nat} {i j:Int} {l:List Rv}:okG n i j l=true↔n=l.length/\0<=i/\i<(n:Int)/\0<=j/\j<(n:Int):=by
 unfold okG;simp only [AS,By]
def lsS:Eng.Obj
 | [.sub 0 3 0 n,.s (.int .i64 i),.s (.int .i64 j)],[(0,.lst true t [.int .u32,.int .i64,.int .i64] l)]=>if t=239 then .ite none (okG n i j l) (.ret (.s (.bool (lt3 (G l j.toNat) (G l i.toNat))),[(0,rB l)])) .fail else .fail
 | _,_=>.fail
theorem aaH:an Tryz.prog 250 lsS:=V6.aiY fun args h r e=>by
 unfold lsS at e;split at e
 ·rename_i n i j t l;split at e
  ·rename_i ht;subst ht;obtain ⟨hb,e⟩:=gy e;obtain rfl:=AI e;obtain ⟨hn,i0,i1,j0,j1⟩:=jq.1 hb;obtain ⟨a1,a2⟩:=vA hn i0 i1;obtain ⟨c1,c2⟩:=vA hn j0 j1;have way:=Xh n i j l;rw [Nat.zero_add,Nat.zero_add] at way;rw [<- T.aiW (t:=lsX _ _)];exact T.aiU way ⟨c1,c2,a1,a2,trivial⟩
  ·cases e
 ·cases e
theorem XX {n:Nat} {i j:Int} {l:List Rv} (hb:okG n i j l=true):(swX [.sub 0 3 0 n,iv i,iv j] [(0,rB l)]).eval=some (.tup [],[(0,rB (sw l i.toNat j.toNat))]):=by
 obtain ⟨hn,i0,i1,j0,j1⟩:=jq.1 hb;obtain ⟨a1,a2⟩:=vA hn i0 i1;obtain ⟨c1,c2⟩:=vA hn j0 j1;obtain ⟨d1,d2⟩:=vA (l:=l.set i.toNat (G l j.toNat)) (by rw [ajK];exact hn) j0 j1;have way:=Wk n i j l;rw [Nat.zero_add,Nat.zero_add] at way;rw [<- T.aiW (t:=swX _ _)];exact T.aiU way ⟨c1,c2,a1,a2,a1,a2,d1,d2,trivial⟩
def swS:Eng.Obj
 | [.sub 0 3 0 n,.s (.int .i64 i),.s (.int .i64 j)],[(0,.lst true t [.int .u32,.int .i64,.int .i64] l)]=>if t=239 then .ite none (okG n i j l) (.ret (.tup [],[(0,rB (sw l i.toNat j.toNat))])) .fail else .fail
 | _,_=>.fail
theorem OO:an Tryz.prog 251 swS:=aa5.aiY fun args h r e=>by
 unfold swS at e;split at e
 ·rename_i n i j t l;split at e
  ·rename_i ht;subst ht;obtain ⟨hb,e⟩:=gy e;obtain rfl:=AI e;exact XX hb
  ·cases e
 ·cases e
def lnS:Eng.Obj
 | [.sub 0 3 0 n],[(0,.lst true t [.int .u32,.int .i64,.int .i64] l)]=>if t=239 then .ret (iv n,[(0,rB l)]) else .fail
 | _,_=>.fail
theorem YR (n:Nat) (l:List Rv):(lnX [.sub 0 3 0 n] [(0,rB l)]).eval=some (iv n,[(0,rB l)]):=by
 rw [<- T.aiW (t:=lnX _ _)];kernel_rfl
theorem G8:an Tryz.prog 138 lnS:=Xy.aiY fun args h r e=>by
 unfold lnS at e;split at e
 ·rename_i n t l;split at e
  ·rename_i ht;subst ht;obtain rfl:=AI e;exact YR n l
  ·cases e
 ·cases e
def B2:Cfg:=⟨Tryz.prog,lookG [(250,.obj lsS),(251,.obj swS),(138,.obj lnS)],[],0⟩
theorem JB:B2.Ok:=Cfg.ok ⟨aaH,OO,G8,trivial⟩ trivial
def fB (n:Nat):Blk:=.cells 233 [.sub 1 3 0 n]
def Xx:Code:=bN Tryz.prog 172 0
structure PUp where (n:Nat) (l0:List Rv)
structure AUp where (j:Int) (l:List Rv)
abbrev SUp:List (Nat × Src):=[(0,.same),(1,.same)]
def acY (p:PUp) (a:AUp):List V:=[.iface 235 (.ptr 0 0),iv a.j]
def adp (p:PUp) (a:AUp):List Blk:=[.cells 233 [.sub 1 3 0 p.n],.lst true 239 [.int .u32,.int .i64,.int .i64] a.l]
def FUp (p:PUp) (a:AUp):St:=bG [0,1] (aF SUp) 4000 23 (acY p a) (adp p a)
def QA (p:PUp) (a:AUp):T (Ex × St):=T.anon (bA B2 aa Xx [0,1] SUp 4000 4000 (bG [0,1] (aF SUp) 4000 23 (acY p a) (adp p a)))
def tX:V->Option (Unit)
 | .iface tt0 (.ptr 0 0)=>if tt0=235 then some () else none
 | _=>none
theorem yj (b:V) (x0:Unit) (h:tX b=some x0):b=.iface 235 (.ptr 0 0):=by
 unfold tX at h;split at h
 ·obtain ⟨e0,h⟩:=ae h;subst e0;cases h;rfl
 ·cases h
def tv:V->Option ((Int))
 | .s (.int .i64 j)=>some (j)
 | _=>none
theorem zn (b:V) (x1:(Int)) (h:tv b=some x1):b=iv (x1):=by
 unfold tv at h;split at h
 ·cases h;rfl
 ·cases h
def sN:Blk->Option ((Nat))
 | .cells tt0 [.sub 1 3 0 n]=>if tt0=233 then some (n) else none
 | _=>none
theorem yh (b:Blk) (y0:(Nat)) (h:sN b=some y0):b=.cells 233 [.sub 1 3 0 (y0)]:=by
 unfold sN at h;split at h
 ·obtain ⟨e0,h⟩:=ae h;subst e0;cases h;rfl
 ·cases h
def tJ:Blk->Option ((List Rv))
 | .lst true tt0 [.int .u32,.int .i64,.int .i64] l=>if tt0=239 then some (l) else none
 | _=>none
theorem xj (b:Blk) (y1:(List Rv)) (h:tJ b=some y1):b=.lst true 239 [.int .u32,.int .i64,.int .i64] (y1):=by
 unfold tJ at h;split at h
 ·obtain ⟨e0,h⟩:=ae h;subst e0;cases h;rfl
 ·cases h
def P1:List V->List Blk->Option (PUp × AUp)
 | [v0,v1],[b0,b1]=>(tX v0).bind fun x0=>(tv v1).bind fun x1=>(sN b0).bind fun y0=>(tJ b1).bind fun y1=>some (⟨(y0),(y1)⟩,⟨(x1),(y1)⟩)
 | _,_=>none
theorem Jo (l:List V) (b:List Blk) (d:PUp × AUp) (h:P1 l b=some d):l=acY d.1 d.2/\b=adp d.1 d.2:=by
 unfold P1 at h;split at h
 ·obtain ⟨x0,hx0,h⟩:=AT.1 h;obtain ⟨x1,hx1,h⟩:=AT.1 h;obtain ⟨y0,hy0,h⟩:=AT.1 h;obtain ⟨y1,hy1,h⟩:=AT.1 h;have ex0:=yj _ _ hx0;have ex1:=zn _ _ hx1;have ey0:=yh _ _ hy0;have ey1:=xj _ _ hy1;cases h;subst ex0 ex1 ey0 ey1;exact ⟨rfl,rfl⟩
 ·cases h
def ain:Nat:=(aq Xx).getD 0
theorem Pq:aq Xx=some ain:=by kernel_rfl
def Wh:Code:=bN Tryz.prog 173 0
structure PDn where (n:Nat) (l0:List Rv) (i0:Int) (m:Int)
structure ADn where (i:Int) (l:List Rv)
abbrev SDn:List (Nat × Src):=[(0,.same),(1,.same)]
def ac1 (p:PDn) (a:ADn):List V:=[.iface 235 (.ptr 0 0),iv p.i0,iv p.m,iv a.i]
def adl (p:PDn) (a:ADn):List Blk:=[.cells 233 [.sub 1 3 0 p.n],.lst true 239 [.int .u32,.int .i64,.int .i64] a.l]
def FDn (p:PDn) (a:ADn):St:=bG [0,1,2,7] (aF SDn) 4000 48 (ac1 p a) (adl p a)
def Iq (p:PDn) (a:ADn):T (Ex × St):=T.anon (bA B2 aa Wh [0,1,2,7] SDn 4000 4000 (bG [0,1,2,7] (aF SDn) 4000 48 (ac1 p a) (adl p a)))
def sW:V->Option (Unit)
 | .iface tt0 (.ptr 0 0)=>if tt0=235 then some () else none
 | _=>none
theorem zN (b:V) (x0:Unit) (h:sW b=some x0):b=.iface 235 (.ptr 0 0):=by
 unfold sW at h;split at h
 ·obtain ⟨e0,h⟩:=ae h;subst e0;cases h;rfl
 ·cases h
def sC:V->Option ((Int))
 | .s (.int .i64 i0)=>some (i0)
 | _=>none
theorem xm (b:V) (x1:(Int)) (h:sC b=some x1):b=iv (x1):=by
 unfold sC at h;split at h
 ·cases h;rfl
 ·cases h
def uh:V->Option ((Int))
 | .s (.int .i64 m)=>some (m)
 | _=>none
theorem zB (b:V) (x2:(Int)) (h:uh b=some x2):b=iv (x2):=by
 unfold uh at h;split at h
 ·cases h;rfl
 ·cases h
def su:V->Option ((Int))
 | .s (.int .i64 i)=>some (i)
 | _=>none
theorem w9 (b:V) (x3:(Int)) (h:su b=some x3):b=iv (x3):=by
 unfold su at h;split at h
 ·cases h;rfl
 ·cases h
def rj:Blk->Option ((Nat))
 | .cells tt0 [.sub 1 3 0 n]=>if tt0=233 then some (n) else none
 | _=>none
theorem yi (b:Blk) (y0:(Nat)) (h:rj b=some y0):b=.cells 233 [.sub 1 3 0 (y0)]:=by
 unfold rj at h;split at h
 ·obtain ⟨e0,h⟩:=ae h;subst e0;cases h;rfl
 ·cases h
def tg:Blk->Option ((List Rv))
 | .lst true tt0 [.int .u32,.int .i64,.int .i64] l=>if tt0=239 then some (l) else none
 | _=>none
theorem yM (b:Blk) (y1:(List Rv)) (h:tg b=some y1):b=.lst true 239 [.int .u32,.int .i64,.int .i64] (y1):=by
 unfold tg at h;split at h
 ·obtain ⟨e0,h⟩:=ae h;subst e0;cases h;rfl
 ·cases h
def SO:List V->List Blk->Option (PDn × ADn)
 | [v0,v1,v2,v3],[b0,b1]=>(sW v0).bind fun x0=>(sC v1).bind fun x1=>(uh v2).bind fun x2=>(su v3).bind fun x3=>(rj b0).bind fun y0=>(tg b1).bind fun y1=>some (⟨(y0),(y1),(x1),(x2)⟩,⟨(x3),(y1)⟩)
 | _,_=>none
theorem Mn (l:List V) (b:List Blk) (d:PDn × ADn) (h:SO l b=some d):l=ac1 d.1 d.2/\b=adl d.1 d.2:=by
 unfold SO at h;split at h
 ·obtain ⟨x0,hx0,h⟩:=AT.1 h;obtain ⟨x1,hx1,h⟩:=AT.1 h;obtain ⟨x2,hx2,h⟩:=AT.1 h;obtain ⟨x3,hx3,h⟩:=AT.1 h;obtain ⟨y0,hy0,h⟩:=AT.1 h;obtain ⟨y1,hy1,h⟩:=AT.1 h;have ex0:=zN _ _ hx0;have ex1:=xm _ _ hx1;have ex2:=zB _ _ hx2;have ex3:=w9 _ _ hx3;have ey0:=yi _ _ hy0;have ey1:=yM _ _ hy1;cases h;subst ex0 ex1 ex2 ex3 ey0 ey1;exact ⟨rfl,rfl⟩
 ·cases h
def ah4:Nat:=(aq Wh).getD 0
theorem PD:aq Wh=some ah4:=by kernel_rfl
def iU (j:Int):Int:=IntKind.wrap .i64 (Int.tdiv (IntKind.wrap .i64 (j - 1)) 2)
def qU (a:AUp):Bool:=iU a.j==a.j
def cU (a:AUp):Bool:=bif iU a.j==a.j then true else !lt3 (G a.l (iU a.j).toNat) (G a.l a.j.toNat)
def ad6 (p:PUp) (a:AUp):St:=FUp p a
theorem aeD (p:PUp) (a:AUp):T.path [false,true,true,true] (QA p a)=some ([((2:Int)==0,false),(qU a,true),(qU a,true),(qU a,true)],(.exit 0,ad6 p a)):=by kernel_rfl
theorem ad2 (p:PUp) (a:AUp):T.path [false,false,true,true] (QA p a)=some ([((2:Int)==0,false),(qU a,false),(okG p.n a.j (iU a.j) a.l,true),(cU a,true)],(.exit 0,ad6 p a)):=by kernel_rfl
theorem up_n (p:PUp) (a:AUp):T.path [false,false,true,false,true] (QA p a)=some ([((2:Int)==0,false),(qU a,false),(okG p.n a.j (iU a.j) a.l,true),(cU a,false),(okG p.n (iU a.j) a.j a.l,true)],(.normal,FUp p ⟨iU a.j,sw a.l (iU a.j).toNat a.j.toNat⟩)):=by kernel_rfl
structure Nu (p:PUp) (a:AUp):Prop where
 n:p.n=a.l.length
 n1:p.n<=1000000
 j0:0<=a.j
 j1:a.j<(p.n:Int)
 perm:a.l.Perm p.l0
 inv:UpI a.l p.n a.j.toNat
def goUp (p:PUp) (a:AUp):Bool := !cU a
def ahm (p:PUp) (a:AUp):Nat:=a.j.toNat
theorem TQ {j:Int} {n:Nat} (h0:0<j) (h1:j<(n:Int)) (hn:n<=1000000):iU j=((j.toNat - 1) / 2:Nat)/\(iU j).toNat=(j.toNat - 1) / 2:=by
 have e:iU j=((j.toNat - 1) / 2:Nat):=by
  unfold iU;rw [wrap64_in (n:=j - 1) (by omega) (by omega),Int.tdiv_eq_ediv_of_nonneg (by omega),wrap64_in (by omega) (by omega)];omega
 exact ⟨e,by omega⟩
theorem aiI:iU 0=0:=by decide
theorem NV (p:PUp) (a:AUp) (h:Nu p a) (hg:goUp p a=true):∃ b,dg Nu QA FUp ahm p a b:=by
 have hc:cU a=false:=by unfold goUp at hg;simpa using hg
 obtain ⟨h1,h2,h3,h4,h5,h6⟩:=h;have hq:qU a=false:=by
  cases q:qU a with
  | false=>rfl
  | true=>unfold qU at q;unfold cU at hc;rw [q] at hc;cases hc
 have hj:0<a.j:=by
  rcases Int.lt_or_eq_of_le h3 with q | q
  ·exact q
  ·unfold qU at hq;rw [<- q,aiI] at hq;cases hq
 obtain ⟨e1,e2⟩:=TQ hj h4 h2;have hl:lt3 (G a.l ((a.j.toNat - 1) / 2)) (G a.l a.j.toNat)=true:=by
  unfold qU at hq;unfold cU at hc;rw [hq,e2] at hc;simpa using hc
 have g1:okG p.n a.j (iU a.j) a.l=true:=jq.2 ⟨h1,h3,h4,by omega,by omega⟩;have g2:okG p.n (iU a.j) a.j a.l=true:=jq.2 ⟨h1,by omega,by omega,h3,h4⟩;have ji:a.j.toNat<a.l.length:=by omega
 refine ⟨_,T.aiU (up_n p a) ⟨rfl,hq,g1,hc,g2,trivial⟩,⟨?_,h2,?_,?_,?_,?_⟩,?_⟩
 ·show p.n=(sw a.l (iU a.j).toNat a.j.toNat).length;rw [F7];exact h1
 ·show 0<=iU a.j;omega
 ·show iU a.j<_;omega
 ·show (sw a.l (iU a.j).toNat a.j.toNat).Perm p.l0;exact (zx (by omega) ji).trans h5
 ·show UpI (sw a.l (iU a.j).toNat a.j.toNat) p.n (iU a.j).toNat;rw [e2];exact h6.step h1 (by omega) (by omega) hl
 ·show (iU a.j).toNat<a.j.toNat;omega
def Wp (p:PUp) (a:AUp):T (Ex × St):=.ret (.exit 0,ad6 p a)
theorem exUp (p:PUp) (a:AUp) (h:Nu p a) (hg:goUp p a=false) (r:Ex × St) (hr:(Wp p a).eval=some r):r.1≠.normal/\(QA p a).eval=some r:=by
 obtain rfl:=AI hr;have hc:cU a=true:=by unfold goUp at hg;simpa using hg
 refine ⟨by simp,?_⟩;cases hq:qU a with
 | true=>exact T.aiU (aeD p a) ⟨rfl,hq,hq,hq,trivial⟩
 | false =>
  obtain ⟨h1,h2,h3,h4,h5,h6⟩:=h;have hj:0<a.j:=by
   rcases Int.lt_or_eq_of_le h3 with q | q
   ·exact q
   ·unfold qU at hq;rw [<- q,aiI] at hq;cases hq
  obtain ⟨e1,e2⟩:=TQ hj h4 h2;exact T.aiU (ad2 p a) ⟨rfl,hq,jq.2 ⟨h1,h3,h4,by omega,by omega⟩,hc,trivial⟩
theorem Y9 {p:PUp} {a:AUp} (h:Nu p a) (hg:goUp p a=false):Hp a.l p.n:=by
 have hc:cU a=true:=by unfold goUp at hg;simpa using hg
 obtain ⟨h1,h2,h3,h4,h5,h6⟩:=h;refine h6.done ?_;rcases Int.lt_or_eq_of_le h3 with q | q
 ·refine .inr ?_;obtain ⟨e1,e2⟩:=TQ q h4 h2;unfold cU at hc;rw [show (iU a.j==a.j)=false from beq_false_of_ne (by omega),e2] at hc;simpa using hc
 ·exact .inl (by omega)
def Xw:bE:=Vr [0,1] SUp 4000 4000 23 P1 Nu goUp QA FUp ahm Wp
theorem Qf:aI B2 Xx Xw:=pG (vs:=acY) (bs:=adp) JB mixed (aw _) Jo (fun _ _=>rfl) (fun _ _=>rfl) NV exUp
def j1D (a:ADn):Int:=IntKind.wrap .i64 (IntKind.wrap .i64 (2*a.i)+1)
def j2D (a:ADn):Int:=IntKind.wrap .i64 (j1D a+1)
def jD (a:ADn) (b:Bool):Int:=match b with
 | true=>j2D a
 | false=>j1D a
def c0D (p:PDn) (a:ADn):Bool:=bif decide (p.m<=j1D a) then true else decide (j1D a<0)
def c1D (p:PDn) (a:ADn):Bool:=decide (j2D a<p.m)
def c3D (p:PDn) (a:ADn):Bool:=bif decide (j2D a<p.m) then lt3 (G a.l (j1D a).toNat) (G a.l (j2D a).toNat) else false
def c5D (a:ADn) (b:Bool):Bool := !lt3 (G a.l a.i.toNat) (G a.l (jD a b).toNat)
def ac7 (p:PDn) (a:ADn):St:=FDn p a
theorem dn_x (p:PDn) (a:ADn):T.path [true] (Iq p a)=some ([(c0D p a,true)],(.exit 0,ac7 p a)):=by kernel_rfl
theorem dn_a (p:PDn) (a:ADn) (b:Bool):T.path [false,true,true,b,true,false,true] (Iq p a)=some ([(c0D p a,false),(c1D p a,true),(okG p.n (j2D a) (j1D a) a.l,true),(c3D p a,b),(okG p.n (jD a b) a.i a.l,true),(c5D a b,false),(okG p.n a.i (jD a b) a.l,true)],(.normal,FDn p ⟨jD a b,sw a.l a.i.toNat (jD a b).toNat⟩)):=by
 cases b<;>kernel_rfl
theorem agC (p:PDn) (a:ADn) (b:Bool):T.path [false,true,true,b,true,true] (Iq p a)=some ([(c0D p a,false),(c1D p a,true),(okG p.n (j2D a) (j1D a) a.l,true),(c3D p a,b),(okG p.n (jD a b) a.i a.l,true),(c5D a b,true)],(.exit 0,ac7 p a)):=by
 cases b<;>kernel_rfl
theorem dn_b (p:PDn) (a:ADn):T.path [false,false,false,true,false,true] (Iq p a)=some ([(c0D p a,false),(c1D p a,false),(c1D p a,false),(okG p.n (jD a false) a.i a.l,true),(c5D a false,false),(okG p.n a.i (jD a false) a.l,true)],(.normal,FDn p ⟨jD a false,sw a.l a.i.toNat (jD a false).toNat⟩)):=by kernel_rfl
theorem aeY (p:PDn) (a:ADn):T.path [false,false,false,true,true] (Iq p a)=some ([(c0D p a,false),(c1D p a,false),(c1D p a,false),(okG p.n (jD a false) a.i a.l,true),(c5D a false,true)],(.exit 0,ac7 p a)):=by kernel_rfl
structure BR (p:PDn) (a:ADn):Prop where
 n:p.n=a.l.length
 n1:p.n<=1000000
 m0:0<=p.m
 m1:p.m<=(p.n:Int)
 i0:0<=a.i
 i1:a.i<(p.n:Int)
 perm:a.l.Perm p.l0
 rest:∀ k:Nat,p.m.toNat<=k->G a.l k=G p.l0 k
 inv:DnI a.l p.m.toNat a.i.toNat
def kD (p:PDn) (a:ADn):Bool:=c3D p a
def N9 (p:PDn) (a:ADn):Bool := !c0D p a && !c5D a (kD p a)
def WK (p:PDn) (a:ADn):Nat:=(p.m - a.i).toNat
theorem D4 {p:PDn} {a:ADn} (h:BR p a):j1D a=2*a.i+1/\j2D a=2*a.i+2:=by
 obtain ⟨h1,h2,h3,h4,h5,h6,h7,h8,h9⟩:=h;have e1:j1D a=2*a.i+1:=by
  unfold j1D;rw [wrap64_in (n:=2*a.i) (by omega) (by omega),wrap64_in (by omega) (by omega)]
 refine ⟨e1,?_⟩;unfold j2D;rw [e1,wrap64_in (by omega) (by omega)];omega
theorem EZ {p:PDn} {a:ADn} (h:BR p a):c0D p a=decide (p.m<=2*a.i+1):=by
 obtain ⟨e1,e2⟩:=D4 h;have:=h.i0;unfold c0D;rw [e1,BY (show ¬ 2*a.i+1<0 by omega)];cases decide (p.m<=2*a.i+1)<;>rfl
theorem YH {p:PDn} {a:ADn} (h:BR p a):(jD a (kD p a)).toNat=kid a.l p.m.toNat a.i.toNat:=by
 obtain ⟨e1,e2⟩:=D4 h;have i0:=h.i0;have m0:=h.m0;have f1:(2*a.i+1).toNat=2*a.i.toNat+1:=by omega
 have f2:(2*a.i+2).toNat=2*a.i.toNat+2:=by omega
 unfold kD c3D kid;rw [e1,e2,f1,f2];by_cases q:2*a.i+2<p.m
 ·rw [c9 q,cond_true];cases hb:lt3 (G a.l (2*a.i.toNat+1)) (G a.l (2*a.i.toNat+2)) with
  | true =>
   rw [if_pos ⟨by omega,rfl⟩];show (j2D a).toNat=_;rw [e2,f2]
  | false =>
   rw [if_neg (fun e=>by cases e.2)];show (j1D a).toNat=_;rw [e1,f1]
 ·rw [BY q,cond_false,if_neg (fun e=>q (by omega))];show (j1D a).toNat=_;rw [e1,f1]
theorem YP {p:PDn} {a:ADn} (h:BR p a) (hm:¬ p.m<=2*a.i+1):0<=jD a (kD p a)/\jD a (kD p a)<p.m/\a.i<jD a (kD p a):=by
 obtain ⟨e1,e2⟩:=D4 h;have i0:=h.i0;cases hb:kD p a with
 | true =>
  have:2*a.i+2<p.m:=by
   unfold kD c3D at hb;rw [e2] at hb;by_cases q:2*a.i+2<p.m
   ·exact q
   ·rw [BY q] at hb;cases hb
  show 0<=j2D a/\j2D a<p.m/\a.i<j2D a;omega
 | false =>
  show 0<=j1D a/\j1D a<p.m/\a.i<j1D a;omega
theorem Ou (p:PDn) (a:ADn) (h:BR p a) (hg:N9 p a=true):∃ b,dg BR Iq FDn WK p a b:=by
 unfold N9 at hg;simp only [AS,Bool.not_eq_true'] at hg;obtain ⟨hc0,hc5⟩:=hg;have hm:¬ p.m<=2*a.i+1:=ajL (by rw [<- EZ h];exact hc0);obtain ⟨k1,k2,k3⟩:=YP h hm;have hk:=YH h;obtain ⟨e1,e2⟩:=D4 h;have h':=h;obtain ⟨h1,h2,h3,h4,h5,h6,h7,h8,h9⟩:=h;have g1:okG p.n (jD a (kD p a)) a.i a.l=true:=jq.2 ⟨h1,k1,by omega,h5,h6⟩;have g2:okG p.n a.i (jD a (kD p a)) a.l=true:=jq.2 ⟨h1,h5,h6,k1,by omega⟩;have hl:lt3 (G a.l a.i.toNat) (G a.l (kid a.l p.m.toNat a.i.toNat))=true:=by
  unfold c5D at hc5;rw [hk] at hc5;simpa using hc5
 have new:BR p ⟨jD a (kD p a),sw a.l a.i.toNat (jD a (kD p a)).toNat⟩:=by
  refine ⟨?_,h2,h3,h4,k1,by show jD a (kD p a)<_;omega,?_,?_,?_⟩
  ·show p.n=(sw a.l _ _).length;rw [F7];exact h1
  ·exact (zx (by omega) (by omega)).trans h7
  ·intro k hkm;show G (sw a.l _ _) k=_;rw [vq (by omega) (by omega),if_neg (by omega),if_neg (by omega)];exact h8 k hkm
  ·show DnI (sw a.l a.i.toNat (jD a (kD p a)).toNat) p.m.toNat (jD a (kD p a)).toNat;rw [hk];exact h9.step (by omega) (by omega) hl
 have mu:WK p ⟨jD a (kD p a),sw a.l a.i.toNat (jD a (kD p a)).toNat⟩<WK p a:=by
  show (p.m - jD a (kD p a)).toNat<(p.m - a.i).toNat;omega
 cases hc1:c1D p a with
 | true =>
  have j2:2*a.i+2<p.m:=by
   have:=IS hc1;omega
  have g3:okG p.n (j2D a) (j1D a) a.l=true:=jq.2 ⟨h1,by omega,by omega,by omega,by omega⟩;exact ⟨_,T.aiU (dn_a p a (kD p a)) ⟨hc0,hc1,g3,rfl,g1,hc5,g2,trivial⟩,new,mu⟩
 | false =>
  have hkf:kD p a=false:=by
   unfold kD c3D;unfold c1D at hc1;rw [hc1];rfl
  rw [hkf] at g1 g2 hc5 new mu;exact ⟨_,T.aiU (dn_b p a) ⟨hc0,hc1,hc1,g1,hc5,g2,trivial⟩,new,mu⟩
def aal (p:PDn) (a:ADn):T (Ex × St):=.ret (.exit 0,ac7 p a)
theorem exDn (p:PDn) (a:ADn) (h:BR p a) (hg:N9 p a=false) (r:Ex × St) (hr:(aal p a).eval=some r):r.1≠.normal/\(Iq p a).eval=some r:=by
 obtain rfl:=AI hr;refine ⟨by simp,?_⟩;cases hc0:c0D p a with
 | true=>exact T.aiU (dn_x p a) ⟨hc0,trivial⟩
 | false =>
  have hc5:c5D a (kD p a)=true:=by
   unfold N9 at hg;rw [hc0] at hg;simpa using hg
  have hm:¬ p.m<=2*a.i+1:=ajL (by rw [<- EZ h];exact hc0);obtain ⟨k1,k2,k3⟩:=YP h hm;obtain ⟨e1,e2⟩:=D4 h;obtain ⟨h1,h2,h3,h4,h5,h6,h7,h8,h9⟩:=h;have g1:okG p.n (jD a (kD p a)) a.i a.l=true:=jq.2 ⟨h1,k1,by omega,h5,h6⟩;cases hc1:c1D p a with
  | true =>
   have j2:2*a.i+2<p.m:=by
    have:=IS hc1;omega
   have g3:okG p.n (j2D a) (j1D a) a.l=true:=jq.2 ⟨h1,by omega,by omega,by omega,by omega⟩;exact T.aiU (agC p a (kD p a)) ⟨hc0,hc1,g3,rfl,g1,hc5,trivial⟩
  | false =>
   have hkf:kD p a=false:=by
    unfold kD c3D;unfold c1D at hc1;rw [hc1];rfl
   rw [hkf] at g1 hc5;exact T.aiU (aeY p a) ⟨hc0,hc1,hc1,g1,hc5,trivial⟩
theorem WE {p:PDn} {a:ADn} (h:BR p a) (hg:N9 p a=false):Hp a.l p.m.toNat:=by
 have i0:=h.i0;refine h.inv.done ?_;cases hc0:c0D p a with
 | true =>
  have:=IS ((EZ h).symm.trans hc0);exact .inl (by omega)
 | false =>
  have hc5:c5D a (kD p a)=true:=by
   unfold N9 at hg;rw [hc0] at hg;simpa using hg
  unfold c5D at hc5;rw [YH h] at hc5;exact .inr (by simpa using hc5)
def WA:bE:=Vr [0,1,2,7] SDn 4000 4000 48 SO BR N9 Iq FDn WK aal
theorem PG:aI B2 Wh WA:=pG (vs:=ac1) (bs:=adl) JB mixed (aw _) Mn (fun _ _=>rfl) (fun _ _=>rfl) Ou exDn
def upO:Eng.Obj:=aK B2 (bZ [(ain,Xw)]) 172
theorem aa1:an Tryz.prog 172 upO:=aG JB mixed Tryz.func172 (by kernel_rfl) (by kernel_rfl) (bW (c:=Xx) (by kernel_rfl) Pq Qf)
def dnO:Eng.Obj:=aK B2 (bZ [(ah4,WA)]) 173
theorem Yf:an Tryz.prog 173 dnO:=aG JB mixed Tryz.func173 (by kernel_rfl) (by kernel_rfl) (bW (c:=Wh) (by kernel_rfl) PD PG)
def B3:Cfg:=⟨Tryz.prog,lookG [(254,.obj puX),(253,.obj poX),(138,.obj lnS),(251,.obj swS),(172,.obj upO),(173,.obj dnO)],[],0⟩
theorem aaV:B3.Ok:=Cfg.ok ⟨Yh,abM,G8,OO,aa1,Yf,trivial⟩ trivial
def hpX:Eng.Obj:=aK B3 aa 136
theorem WC:an Tryz.prog 136 hpX:=ag aaV mixed Tryz.func136 (by kernel_rfl) (by kernel_rfl)
def hqX:Eng.Obj:=aK B3 aa 139
theorem XM:an Tryz.prog 139 hqX:=ag aaV mixed Tryz.func139 (by kernel_rfl) (by kernel_rfl)
def one (n:Nat):Int:=IntKind.wrap .i64 ((n:Int) - 1)
def pU (n:Nat) (l:List Rv) (x:Rv):PUp:=⟨n+[x].length,l.take n++[x]⟩
def aU (n:Nat) (l:List Rv) (x:Rv):AUp:=⟨one (n+[x].length),l.take n++[x]⟩
def fa (n:Nat) (l:List Rv) (x:Rv):List Rv:=(cD (fT Nu goUp QA FUp ahm (pU n l x)) (aU n l x)).l
def apG (n:Nat) (l:List Rv) (x:Rv):Bool:=true&&(decide (n<=l.length)&&decide (n+[x].length<=1000000))
theorem Wb (n:Nat) (x:Rv) (l:List Rv):T.path [true,true] (T.anon (hpX [.iface 235 (.ptr 0 0),.iface 239 (rvV x)] [(0,fB n),(1,rB l)]))=some ([(apG n l x,true),(ca Nu (pU n l x) (aU n l x),true)],(.tup [],[(0,.cells 233 [.sub 2 3 0 (n+[x].length)]),(2,rB (fa n l x))])):=by kernel_rfl
def B9 (n:Nat) (l:List Rv):Prop:=n<=l.length/\n<1000000/\Hp (l.take n) n
open Classical in
def Fk (n:Nat) (l:List Rv):Bool:=decide (B9 n l)
theorem uk {n:Nat} {l:List Rv}:Fk n l=true↔B9 n l:=by unfold Fk;exact @decide_eq_true_iff _ (Classical.propDecidable _)
theorem abu {l:List Rv} {x:Rv} {k:Nat} (h:k<l.length):G (l++[x]) k=G l k:=by
 unfold G;rw [IT,IT,List.getElem?_append_left h]
theorem A9 {n:Nat} (h:0<n) (h1:n<=1000000):one n=((n - 1:Nat):Int):=by
 unfold one;rw [wrap64_in (by omega) (by omega)];omega
theorem DR {n:Nat} {l:List Rv} (h:B9 n l) (x:Rv):Nu (pU n l x) (aU n l x):=by
 obtain ⟨h1,h2,h3⟩:=h;have e:=A9 (n:=n+1) (by omega) (by omega);have ht:(l.take n).length=n:=by rw [ajM];omega
 refine ⟨?_,?_,?_,?_,List.Perm.refl _,?_,?_⟩
 ·show n+1=(l.take n++[x]).length;rw [IN,ht];rfl
 ·show n+1<=1000000;omega
 ·show 0<=one (n+1);omega
 ·show one (n+1)<((n+1:Nat):Int);omega
 ·intro k hk hn hne;have hn:k<n+1:=hn;have hne:k≠(one (n+1)).toNat:=hne;show lt3 (G (l.take n++[x]) ((k - 1) / 2)) (G (l.take n++[x]) k)=false;rw [abu (by omega),abu (by omega)];exact h3 k hk (by omega)
 ·intro k hk hn hp hj;have hn:k<n+1:=hn;have hp:(k - 1) / 2=(one (n+1)).toNat:=hp;have hj:0<(one (n+1)).toNat:=hj;omega
theorem TT {n:Nat} {l:List Rv} (h:B9 n l) (x:Rv):(fa n l x).Perm (l.take n++[x])/\Hp (fa n l x) (n+1):=by
 obtain ⟨k1,k2⟩:=qW NV (DR h x);exact ⟨k1.perm,Y9 k1 k2⟩
theorem Kq {n:Nat} {l:List Rv} (h:B9 n l) (x:Rv):(hpX [.iface 235 (.ptr 0 0),.iface 239 (rvV x)] [(0,fB n),(1,rB l)]).eval=some (.tup [],[(0,.cells 233 [.sub 2 3 0 (n+1)]),(2,rB (fa n l x))]):=by
 rw [<- T.aiW (t:=hpX _ _)];have ho:=DR h x;obtain ⟨h1,h2,h3⟩:=h;refine T.aiU (Wb n x l) ⟨?_,aH ho,trivial⟩;unfold apG;rw [c9 h1,c9 (show n+[x].length<=1000000 by show n+1<=_;omega)];rfl
def hpS:Eng.Obj
 | [.iface ti (.ptr 0 0),.iface tr (.agg [.s (.int .u32 a),.s (.int .i64 b),.s (.int .i64 c)])],[(0,.cells tf [.sub 1 3 0 n]),(1,.lst true t [.int .u32,.int .i64,.int .i64] l)] =>
  if ti=235 then if tr=239 then if tf=233 then if t=239 then
   .ite none (Fk n l) (.ret (.tup [],[(0,.cells 233 [.sub 2 3 0 (n+1)]),(2,rB (fa n l (a,b,c)))])) .fail else .fail else .fail else .fail else .fail
 | _,_=>.fail
theorem jT {α:Type} {c:Prop} [Decidable c] {x:T α} {v:α} (h:(if c then x else .fail).eval=some v):c/\x.eval=some v:=by
 by_cases q:c
 ·rw [if_pos q] at h;exact ⟨q,h⟩
 ·rw [if_neg q] at h;cases h
theorem abd:an Tryz.prog 136 hpS:=WC.aiY fun args h r e=>by
 unfold hpS at e;split at e
 ·rename_i ti tr a b c tf n t l;obtain ⟨q1,e1⟩:=jT e;obtain ⟨q2,e2⟩:=jT e1;obtain ⟨q3,e3⟩:=jT e2;obtain ⟨q4,e4⟩:=jT e3;obtain ⟨hb,e5⟩:=gy e4;obtain rfl:=AI e5;clear e e1 e2 e3 e4 e5;subst q1 q2 q3 q4;exact Kq (uk.1 hb) (a,b,c)
 ·cases e
def pD (n:Nat) (l:List Rv):PDn:=⟨n,sw l 0 (one n).toNat,0,one n⟩
def aD (n:Nat) (l:List Rv):ADn:=⟨0,sw l 0 (one n).toNat⟩
def pR (n:Nat) (l:List Rv):List Rv:=(cD (fT BR N9 Iq FDn WK (pD n l)) (aD n l)).l
def poA (n:Nat) (q:List Rv):Bool:=decide (0<=one n)&&(decide (one n<(n:Int))&&decide (0+(one n).toNat<q.length))
def poB (n:Nat) (q:List Rv):Bool:=decide (0+(one n).toNat<q.length)
def poC (n:Nat) (q:List Rv):Bool:=decide ((0:Int)<=0)&&(decide (0<=one n)&&(decide (one n<=(n:Int))&&decide (n<=q.length)))
theorem aah (n:Nat) (l:List Rv):T.path [true,true,true,true,true] (T.anon (hqX [.iface 235 (.ptr 0 0)] [(0,fB n),(1,rB l)]))=some ([(okG n 0 (one n) l,true),(ca BR (pD n l) (aD n l),true),(poA n (pR n l),true),(poB n (pR n l),true),(poC n (pR n l),true)],(.iface 239 (rvV (G (pR n l) (0+(one n).toNat))),[(0,.cells 233 [.sub 1 3 0 ((one n).toNat - 0)]),(1,rB (pR n l))])):=by kernel_rfl
def Vp (n:Nat) (l:List Rv):Prop:=n=l.length/\0<n/\n<=1000000/\Hp l n
open Classical in
def acI (n:Nat) (l:List Rv):Bool:=decide (Vp n l)
theorem Ee {n:Nat} {l:List Rv}:acI n l=true↔Vp n l:=by unfold acI;exact @decide_eq_true_iff _ (Classical.propDecidable _)
theorem MW {n:Nat} {l:List Rv} (h:Vp n l):BR (pD n l) (aD n l):=by
 obtain ⟨h1,h2,h3,h4⟩:=h;have e:=A9 h2 h3;have et:(one n).toNat=n - 1:=by omega
 have g:=vq (l:=l) (i:=0) (j:=n - 1) (by omega) (by omega);refine ⟨?_,h3,?_,?_,ajG _,?_,List.Perm.refl _,fun k _=>rfl,?_,?_⟩
 ·show n=(sw l 0 (one n).toNat).length;rw [F7];exact h1
 ·show 0<=one n;omega
 ·show one n<=(n:Int)
  omega
 ·show (0:Int)<(n:Int);omega
 ·intro k hk hn hp;have hn:k<(one n).toNat:=hn;have hp:(k - 1) / 2≠0:=hp;show lt3 (G (sw l 0 (one n).toNat) ((k - 1) / 2)) (G (sw l 0 (one n).toNat) k)=false;rw [et,g,g,if_neg (by omega),if_neg (by omega),if_neg (by omega),if_neg (by omega)];exact h4 k hk (by omega)
 ·intro k hk hn hp hj;have hj:0<(0:Int).toNat:=hj;exact absurd hj (by decide)
theorem Ol {n:Nat} {l:List Rv} (h:Vp n l):(pR n l).Perm l/\Hp (pR n l) (n - 1)/\G (pR n l) (n - 1)=G l 0:=by
 obtain ⟨k1,k2⟩:=qW Ou (MW h);obtain ⟨h1,h2,h3,h4⟩:=h;have e:=A9 h2 h3;have et:(one n).toNat=n - 1:=by omega
 refine ⟨k1.perm.trans (zx (by omega) (by omega)),?_,?_⟩
 ·have:=WE k1 k2;rw [show (pD n l).m.toNat=n - 1 from et] at this;exact this
 ·have:=k1.rest (n - 1) (by show (one n).toNat<=_;omega);rw [show (pD n l).l0=sw l 0 (n - 1) by unfold pD;rw [et],vq (by omega) (by omega),if_pos rfl] at this;exact this
theorem Uw {n:Nat} {l:List Rv} (h:Vp n l):(hqX [.iface 235 (.ptr 0 0)] [(0,fB n),(1,rB l)]).eval=some (.iface 239 (rvV (G (pR n l) (n - 1))),[(0,.cells 233 [.sub 1 3 0 (n - 1)]),(1,rB (pR n l))]):=by
 rw [<- T.aiW (t:=hqX _ _)];have ho:=MW h;obtain ⟨i1,i2,i3⟩:=Ol h;obtain ⟨h1,h2,h3,h4⟩:=h;have e:=A9 h2 h3;have et:(one n).toNat=n - 1:=by omega
 have el:(pR n l).length=n:=by rw [i1.length_eq];exact h1.symm
 have way:=aah n l;rw [et,Nat.zero_add,Nat.sub_zero] at way;refine T.aiU way ⟨jq.2 ⟨h1,ajG _,by omega,by omega,by omega⟩,aH ho,?_,?_,?_,trivial⟩
 ·unfold poA;rw [c9 (show 0<=one n by omega),c9 (show one n<(n:Int) by omega),c9 (show 0+(one n).toNat<(pR n l).length by omega)];rfl
 ·exact c9 (by omega)
 ·unfold poC;rw [c9 (show 0<=one n by omega),c9 (show one n<=(n:Int) by omega),c9 (show n<=(pR n l).length by omega)];rfl
def hqS:Eng.Obj
 | [.iface ti (.ptr 0 0)],[(0,.cells tf [.sub 1 3 0 n]),(1,.lst true t [.int .u32,.int .i64,.int .i64] l)] =>
  if ti=235 then if tf=233 then if t=239 then
   .ite none (acI n l) (.ret (.iface 239 (rvV (G (pR n l) (n - 1))),[(0,.cells 233 [.sub 1 3 0 (n - 1)]),(1,rB (pR n l))])) .fail else .fail else .fail else .fail
 | _,_=>.fail
theorem XS:an Tryz.prog 139 hqS:=XM.aiY fun args h r e=>by
 unfold hqS at e;split at e
 ·rename_i ti tf n t l;obtain ⟨q1,e1⟩:=jT e;obtain ⟨q2,e2⟩:=jT e1;obtain ⟨q3,e3⟩:=jT e2;obtain ⟨hb,e5⟩:=gy e3;obtain rfl:=AI e5;clear e e1 e2 e3 e5;subst q1 q2 q3;exact Uw (Ee.1 hb)
 ·cases e
end Go.Proofs.YtefkegpbpaoadaaGreatDoor.Sub
namespace Go.Proofs.YtefkegpbpaoadaaGreatDoor.Sub
open Go.Shelf Go.RowKit Go.Lib Go.Sort
abbrev A3:Type:=Int × Int × Fin 4611686018427387904
instance:Inhabited A3:=⟨(0,0,⟨0,by decide⟩)⟩
def p7 (x:A3):List Value:=[.int .u32 x.1,.int .i64 x.2.1,.int .i64 (x.2.2.val:Int)]
def cfA (x y:A3):Int:=(x.2.2.val:Int) - (y.2.2.val:Int)
theorem ltA (x y:A3):ltOf cfA x y=decide (x.2.2.val<y.2.2.val):=by
 unfold ltOf cfA;by_cases h:x.2.2.val<y.2.2.val
 ·rw [c9 h,c9 (by omega)]
 ·rw [BY h,BY (by omega)]
theorem aiJ:SWO (ltOf cfA) where
 irrefl x:=by rw [ltA];simp
 trans x y z h1 h2:=by rw [ltA] at *;simp at *;omega
 ntrans x y z h1 h2:=by rw [ltA] at *;simp at *;omega
set_option maxHeartbeats 1000000 in
theorem cloA (x y:A3) (W:World):Calls Tryz.prog 141 #[.agg #[.int .u32 x.1,.int .i64 x.2.1,.int .i64 (x.2.2.val:Int)],.agg #[.int .u32 y.1,.int .i64 y.2.1,.int .i64 (y.2.2.val:Int)]] W fun e w'=>e=.returned (.int .i64 (cfA x y))/\∃ q os',w'=grow (W.drewN q) os':=by
 have hw:IntKind.wrap .i64 ((x.2.2.val:Int) - (y.2.2.val:Int))=cfA x y:=by
  have h1:=x.2.2.isLt;have h2:=y.2.2.isLt;exact Go.Eng.wrap64_in (by omega) (by omega)
 generalize (x.2.2.val:Int)=a at hw ⊢;generalize (y.2.2.val:Int)=b at hw ⊢;generalize cfA x y=r at hw ⊢
 go_enter Tryz.func141,Tryz.ntmps141
 go_wp2
 go_ret
 exact ⟨rfl,0,_,by rw [alloc_eq_grow,alloc_eq_grow,grow_grow];rfl⟩
theorem cmpA (blk off size:Nat) (w:World):CmpLays Tryz.prog 141 #[] p7 3 cfA blk off size w :=
 fun _ _ _ _ x y=>cloA x y _
def toA (x:Rv):A3:=(x.1,x.2.1,⟨x.2.2.toNat % 4611686018427387904,Nat.mod_lt _ (by decide)⟩)
def Dk (x:A3):Rv:=(x.1,x.2.1,(x.2.2.val:Int))
def ka (x:Rv):Bool:=decide (0<=x.2.2)&&decide (x.2.2<4611686018427387904)
theorem Fa {x:Rv} (h:ka x=true):Dk (toA x)=x:=by
 obtain ⟨a,b,c⟩:=x;unfold ka at h;simp only [AS,By] at h;show (a,b,((c.toNat % 4611686018427387904:Nat):Int))=(a,b,c)
 rw [Nat.mod_eq_of_lt (by omega)];have:((c.toNat:Nat):Int)=c:=by omega
 rw [this]
theorem rL:∀ d:List A3,d.flatMap p7=Go.Eng.aN KR (d.map Dk)
 | []=>rfl
 | x::d=>by
  show p7 x++d.flatMap p7=_;rw [rL d];rfl
theorem flat_rows:∀ d:List A3,(flatK p7 3 d.toArray).toList=d.flatMap p7:=by
 intro d;have key:∀ d:List A3,(List.range (d.length*3)).map (fun t=>(p7 (d[t / 3]?.getD default))[t % 3]!)=d.flatMap p7:=by
  intro d
  induction d with
  | nil=>rfl
  | cons x d ih =>
   rw [show (x::d).length*3=3+d.length*3 by simp only [List.length_cons];omega,List.range_add,List.map_append,List.map_map];show _=p7 x++d.flatMap p7;rw [<- ih];congr 1;refine List.map_congr_left fun t _ => ?_;show (p7 ((x::d)[(3+t) / 3]?.getD default))[(3+t) % 3]! =_;rw [show (3+t) / 3=t / 3+1 by omega,show (3+t) % 3=t % 3 by omega,List.getElem?_cons_succ]
 unfold flatK;rw [<- key d];simp [Array.toList_map]
end Go.Proofs.YtefkegpbpaoadaaGreatDoor.Sub
namespace Go.Proofs.YtefkegpbpaoadaaGreatDoor.Sub
open Go.Eng Go.RowKit
def Mx (l:List Rv) (lim:Nat):List A3:=(Sort.pdq (ltOf cfA) (l.map toA).toArray 0 l.length lim true true).toList
def rf (l:List Rv) (lim:Nat):List Rv:=(Mx l lim).map Dk
theorem D9 (l:List Rv) (lim:Nat):(Mx l lim).length=l.length/\(Mx l lim).Perm (l.map toA)/\(Mx l lim).Pairwise (fun a b=>¬ b.2.2.val<a.2.2.val):=by
 have h:=Sort.pdq_sorts (ltOf cfA) aiJ (l.map toA).toArray 0 l.length lim true true (Nat.zero_le _) (by simp) (Or.inl rfl);obtain ⟨⟨h1,-,h3⟩,h4⟩:=h;have hs:(Sort.pdq (ltOf cfA) (l.map toA).toArray 0 l.length lim true true).size=l.length:=by rw [h1];simp
 refine ⟨by unfold Mx;simpa using hs,?_,?_⟩
 ·have ex:∀ q:Array A3,q.extract 0 q.size=q:=fun q=>Array.extract_size;have e1:=ex (Sort.pdq (ltOf cfA) (l.map toA).toArray 0 l.length lim true true);have e2:=ex (l.map toA).toArray;rw [hs] at e1;rw [show (l.map toA).toArray.size=l.length by simp] at e2;rw [e1,e2] at h3;exact h3
 ·rw [List.pairwise_iff_getElem];intro i j hi hj hij;unfold Mx at hi hj ⊢;have:=h4 i j (Nat.zero_le _) hij (by simpa [hs] using hj);rw [ltA,ajO] at this;rw [getElem!_pos _ i (by simpa using hi),getElem!_pos _ j (by simpa using hj)] at this;simpa using this
theorem Mi {l:List Rv} (lim:Nat) (h:l.all ka=true):(rf l lim).Perm l:=by
 have:=(D9 l lim).2.1.map Dk;unfold rf;refine this.trans ?_;rw [List.map_map];have:l.map (Dk ∘ toA)=l:=by
  conv=>rhs;rw [<- List.map_id l]
  exact List.map_congr_left fun x hx=>Fa (ajE.1 h x hx)
 rw [this]
theorem Dj (l:List Rv) (lim:Nat):(rf l lim).Pairwise (fun a b=>a.2.2<=b.2.2):=by
 unfold rf;rw [List.pairwise_map];refine (D9 l lim).2.2.imp fun {a b} h => ?_;show (a.2.2.val:Int)<=(b.2.2.val:Int)
 omega
theorem sJ (l:List Rv) (lim:Nat):(rf l lim).length=l.length:=by
 unfold rf;rw [ajT];exact (D9 l lim).1
theorem JM (l:List Rv) (lim:Nat):(Go.Sort.flatK p7 3 (Sort.pdq (ltOf cfA) (l.map toA).toArray 0 l.length lim true true)).toList=aN KR (rf l lim):=by
 have:Sort.pdq (ltOf cfA) (l.map toA).toArray 0 l.length lim true true=(Mx l lim).toArray:=by unfold Mx;simp
 rw [this,flat_rows,rL];rfl
theorem Ft {l:List Rv} (h:l.all ka=true):(Go.Sort.flatK p7 3 (l.map toA).toArray).toList=aN KR l:=by
 have e:(l.map toA).map Dk=l:=by
  rw [List.map_map]
  conv=>rhs;rw [<- List.map_id l]
  exact List.map_congr_left fun x hx=>Fa (ajE.1 h x hx)
 rw [flat_rows,rL];exact congrArg (aN KR) e
theorem Oe (l:List Rv):(aN KR l).length=l.length*3:=aR (ks:=KR) l
theorem Kv (off:Nat) (F cur:Array Value) (h:off+F.size<=cur.size):((Sort.putCells id off F cur).toList.drop off).take F.size=F.toList:=by
 refine List.ext_getElem? fun j => ?_;rw [List.getElem?_take];split
 ·rename_i hj;rw [List.getElem?_drop];unfold Sort.putCells;rw [Array.getElem?_toList,Array.getElem?_mapIdx,Array.getElem?_eq_getElem (by omega),Array.getElem?_toList,Array.getElem?_eq_getElem hj];simp only [Option.map_some];rw [if_pos ⟨by omega,by omega⟩,show off+j - off=j by omega,getElem!_pos F j hj];rfl
 ·rename_i hj;rw [Array.getElem?_toList,Array.getElem?_eq_none (by omega)]
theorem Ji (off:Nat) (F cur:Array Value):(Sort.putCells id off F cur).size=cur.size:=by
 unfold Sort.putCells;simp
def pqB (n:Nat) (a b lim:Int) (l:List Rv):Bool:=decide (n=l.length)&&(decide (0<n)&&(decide (n<=1000000)&&(decide (a=0)&&(decide (b=(n:Int))&&(decide (0<=lim)&&(decide (lim<4611686018427387904)&&l.all ka))))))
def pqS:Eng.Obj
 | [.sub 0 3 0 n,.s (.int .i64 a),.s (.int .i64 b),.s (.int .i64 lim),.raw (.func (.func g) x y)],[(0,.lst true t [.int .u32,.int .i64,.int .i64] l)] =>
  if t=239 then if g=141 then if x.size=0 then if y.size=0 then
   .ite none (pqB n a b lim l) (.ret (.tup [],[(0,rB (rf l lim.toNat))])) .fail else .fail else .fail else .fail else .fail
 | _,_=>.fail
theorem EW {l:List Rv} {n lim:Nat} (hn:n=l.length) (h0:0<n) (h1:n<=1000000) (hl:lim<4611686018427387904) (hs:l.all ka=true) {ν:Env} {w:World} (hr:Rel ν (Eng.look [(0,rB l)]) w) :
  Calls Tryz.prog 174 (aL ν [.sub 0 3 0 n,iv 0,iv n,iv lim,.raw (.func (.func 141) #[] #[])]).toArray w fun e w'=>∃ ν':Env,e=.returned ((V.tup []).den ν')/\(∀ i,inH [(0,rB l)] i=true->(ν' i).core=(ν i).core)/\Rel ν' (Eng.look [(0,rB (rf l lim))]) w' /\
   (∀ i b,Eng.look [(0,rB (rf l lim))] i=some b->∀ k,(ν' i).fp k->eH ν [(0,rB l)] k\/w.heap.size<=k)/\Prog w w' (eH ν [(0,rB l)]):=by
 obtain ⟨e0,e1⟩:=hr.den 0 (.lst true 239 KR l) rfl;obtain ⟨z,e0⟩:=e0;rcases e0 with ⟨_,q⟩ | ⟨g,off,cap,cur,q1,q2,q3,q4,q5,q6,q7⟩
 ·have q:l.length=0:=q;omega
 simp only [Value.slice.injEq,true_and] at q1;obtain ⟨qa,qc⟩:=q1;have q6:off+cap*3<=cur.size:=q6;have q4:List.length (α:=Rv) l<=cap:=q4;have q7:(cur.toList.drop off).take (l.length*3)=aN KR l:=q7;have rl:(aN KR l).length=l.length*3:=z;have hgs:g<w.heap.size:=(Array.getElem?_eq_some_iff.1 q3).1;have ds:(l.map toA).toArray.size=n:=by simp [hn]
 have ea:(aL ν [.sub 0 3 0 n,iv 0,iv n,iv lim,.raw (.func (.func 141) #[] #[])]).toArray=#[.slice (some ⟨g,off,none⟩) (l.map toA).toArray.size cap,.int .i64 (0:Nat),.int .i64 (l.map toA).toArray.size,.int .i64 lim,.func (.func 141) #[] #[]]:=by
  rw [ds];simp [aL,V.den,qa,qc,iv,S.den,di]
 have hH:Go.Sort.HoldsK p7 3 w g off (l.map toA).toArray:=by
  intro j hj;have hf:=Ft hs;have hj':j<l.length*3:=by simpa [Go.Sort.size_flatK] using hj
  have hc:(aN KR l)[j]?=some (Go.Sort.flatK p7 3 (l.map toA).toArray)[j]!:=by
   rw [<- hf,Array.getElem?_toList,Array.getElem?_eq_getElem hj,getElem!_pos _ j hj]
  refine ⟨?_,by unfold World.frozen?;simp [q3]⟩;rw [cell_of_row w g (off+j) cur 239 (0,0) q3];rw [<- q7,List.getElem?_take,if_pos hj',List.getElem?_drop,Array.getElem?_toList] at hc;exact hc
 have eg:∀ args w,(callFunc 141 args).run Tryz.prog w=.ok (.enter 141 args) w:=enters_of Tryz.func141 (by kernel_rfl) rfl
 have hp:=AnyQ.pdqsortCmpFunc_all Tryz.sortRv 3 Tryz.isAgg239 Tryz.sizeOf239 p7 cfA 141 #[] aiJ g off cap (l.map toA).toArray w eg (cmpA g off _ w) ⟨fun _=>rfl,fun x v hv=>by simp [p7] at hv;rcases hv with rfl | rfl | rfl<;>rfl,hH,hgs⟩
  ((l.map toA).toArray.size+1) 0 (l.map toA).toArray.size lim (l.map toA).toArray w (by omega) rfl (SWK.start hH) (Nat.zero_le _) (ajQ _) (by omega) hl (Or.inl rfl)
 rw [ea];refine Calls.mono hp ?_;rintro e w' ⟨rfl,m,os,rfl⟩;rw [ds,hn];have hfr:=JM l lim;generalize hF:Go.Sort.flatK p7 3 (Sort.pdq (ltOf cfA) (l.map toA).toArray 0 l.length lim true true)=F at hfr;have fs:F.size=l.length*3:=by
  have:=congrArg List.length hfr;rw [Oe,sJ] at this;simpa using this
 have hw:∀ k,k<w.heap.size->(sortWorldK p7 3 w g off m (Sort.pdq (ltOf cfA) (l.map toA).toArray 0 l.length lim true true) os).heap[k]?=if g=k then some (.cells (Sort.putCells id off F cur) 239 (0,0)) else w.heap[k]?:=by
  intro k hk;show ((w.heap.modify g (Sort.onCells (Sort.putCells id off (Go.Sort.flatK p7 3 (Sort.pdq (ltOf cfA) (l.map toA).toArray 0 l.length lim true true)))))++os)[k]?=_;rw [hF,Array.getElem?_append_left (by simpa using hk),Array.getElem?_modify];split
  ·rename_i hgk;rw [<- hgk,q3];rfl
  ·rfl
 generalize hW:sortWorldK p7 3 w g off m (Sort.pdq (ltOf cfA) (l.map toA).toArray 0 l.length lim true true) os=W at hw;have hg:eH ν [(0,rB l)] g:=⟨0,rB l,rfl,rfl,(e1 g).2 ⟨_,qa,rfl⟩⟩
 refine ⟨ν,rfl,fun _ _=>rfl,⟨fun i b e => ?_,fun i j bi bj ne ei ej => ?_⟩,fun i b e k hk => ?_,?_⟩
 ·match i,e with
  | 0,e =>
   obtain rfl:=AI e;refine ⟨⟨?_,.inr ⟨g,off,cap,Sort.putCells id off F cur,?_,Nat.zero_le _,?_,?_,q5,?_,?_⟩⟩,e1⟩
   ·exact Oe (rf l lim)
   ·rw [qa,qc]
   ·rw [hw g hgs,if_pos rfl]
   ·exact ajX (Nat.le_of_eq (sJ l lim)) q4
   ·rw [Ji];exact q6
   ·have hh:=Kv off F cur (by rw [fs];omega);rw [fs,hfr] at hh;have hl2:List.length (α:=Rv) (rf l lim)*3=l.length*3:=by rw [sJ]
    exact Eq.trans (congrArg (fun q=>List.take q (List.drop off (Sort.putCells id off F cur).toList)) hl2) hh
  | i+1,e=>cases e
 ·match i,j,ei,ej with
  | 0,0,_,_=>exact absurd rfl ne
  | 0,j+1,_,ej=>cases ej
  | i+1,_,ei,_=>cases ei
 ·match i,e with
  | 0,e=>exact .inl ⟨0,rB l,rfl,rfl,hk⟩
  | i+1,e=>cases e
 ·rw [<- hW];refine ⟨rfl,rfl,rfl,?_,fun k hk hn => ?_⟩
  ·show w.heap.size<=((w.heap.modify g _)++os).size;simp
  ·rw [hW,hw k hk,if_neg (fun (e:g=k)=>hn (e ▸ hg))]
theorem Zh:an Tryz.prog 174 pqS:=by
 refine ⟨⟨_,Tryz.func174,by kernel_rfl,by kernel_rfl⟩,fun args h v h' ν w hG hgs hok hb hr hv ho => ?_⟩;unfold pqS at hv;split at hv
 ·rename_i n a b lim g x y t l;obtain ⟨q1,e1⟩:=jT hv;obtain ⟨q2,e2⟩:=jT e1;obtain ⟨q3,e3⟩:=jT e2;obtain ⟨q4,e4⟩:=jT e3;obtain ⟨hc,e5⟩:=gy e4;clear e1 e2 e3 e4 hv;have ev:=AI e5;have ev1:v=.tup []:=(congrArg Prod.fst ev).symm;have ev2:h'=[(0,rB (rf l lim.toNat))]:=(congrArg Prod.snd ev).symm;clear ev e5;subst ev1 ev2 q1 q2;have hx:x=#[]:=Array.eq_empty_of_size_eq_zero q3;have hy:y=#[]:=Array.eq_empty_of_size_eq_zero q4;subst hx hy;unfold pqB at hc;simp only [AS,By] at hc;obtain ⟨c1,c2,c3,c4,c5,c6,c7,c8⟩:=hc;have hlim:lim=((lim.toNat:Nat):Int):=by omega
  have key:=EW (lim:=lim.toNat) c1 c2 c3 (by omega) c8 hr;rw [<- hlim] at key;subst c4 c5;exact key
 ·cases hv
def agx:Eng.Spec
 | [.s (.int .u64 x)]=>.ite none (decide (0<=x)&&decide (x<=1000000)) (.ret (iv (Go.Lib.bitLen x.toNat:Nat))) .fail
 | _=>.fail
theorem TZ:aj Tryz.prog 175 agx:=by
 refine ⟨⟨_,Tryz.func175,by kernel_rfl,by kernel_rfl⟩,fun args v xs w hG hrow hv hrv hh => ?_⟩;unfold agx at hv;split at hv
 ·rename_i x;obtain ⟨hb,hv⟩:=gy hv;rw [AS,By,By] at hb;obtain ⟨h1,h2⟩:=hb;obtain rfl:=AI hv;obtain rfl:xs=[.int .u64 x]:=by
   match xs,hh with
   | [],hh=>exact hh.elim
   | [y],hh=>rw [show y=.int .u64 x from (gX (v:=.s (.int .u64 x)) rfl).1 hh.1]
   | _::_::_,hh=>exact hh.2.elim
  have h:=Any.bits_Len (SlLaysF0.n15.bits (P:=Tryz.prog) (ρ:=Tryz.ajq) { Tryz.sortRv with }) x w h1 (by omega);refine Calls.mono h ?_;rintro e w' ⟨rfl,rfl⟩;exact ⟨_,rfl,(dp (v:=iv (Go.Lib.bitLen x.toNat:Nat)) rfl).2 rfl,Below.refl _ _⟩
 ·cases hv
def B4:Cfg:=⟨Tryz.prog,lookG [(175,.val agx),(174,.obj pqS)],[],0⟩
theorem agX:B4.Ok:=Cfg.ok ⟨TZ,Zh,trivial⟩ trivial
def sfX:Eng.Obj:=aK B4 aa 140
theorem aaZ:an Tryz.prog 140 sfX:=ag agX mixed Tryz.func140 (by kernel_rfl) (by kernel_rfl)
def wN:List V->Heap->Heap
 | .sub 0 _ 0 n::_,h=>dB 0 n h
 | _,h=>h
def ahW (sp:Eng.Obj):Eng.Obj:=fun args h=>sp args (wN args h)
theorem kr {ν:Env} {i n:Nat} {h:Heap} {k:Nat}:eH ν (dB i n h) k↔eH ν h k:=by
 constructor
 ·rintro ⟨j,b,e,ho,hk⟩;rw [bO] at e;obtain ⟨c,hc,rfl⟩:=ajD.1 e;refine ⟨j,c,hc,?_,hk⟩;split at ho
  ·rwa [cP] at ho
  ·exact ho
 ·rintro ⟨j,b,e,ho,hk⟩;refine ⟨j,_,by rw [bO,e];rfl,?_,hk⟩;split
  ·rwa [cP]
  ·exact ho
theorem mP {i n:Nat}:∀ h:Heap,(dB i n h).length=h.length
 | []=>rfl
 | (j,b)::r=>by simp only [dB,List.length_cons,mP r]
theorem SL {i n:Nat} {h h':Heap} {v:V}:hZ (dB i n h) v h'=hZ h v h':=by
 have e:∀ j,(match Eng.look (dB i n h) j with | some b=>b.owned | none=>true)=(match Eng.look h j with | some b=>b.owned | none=>true):=by
  intro j;rw [bO];cases Eng.look h j with
  | none=>rfl
  | some b =>
   simp only [Option.map_some];split
   ·exact cP b
   ·rfl
 have e2:inO (dB i n h) h'=inO h h':=by
  funext j;unfold inO;congr 1;rw [bO];cases Eng.look h j with
  | none=>rfl
  | some b =>
   simp only [Option.map_some];split
   ·rw [cP]
   ·rfl
 unfold hZ;rw [e2];exact congrArg (fun q=>v.ok (inO h h')&&q) (congrArg (fun g=>h'.all g) (funext fun p=>congrArg (fun q=>p.2.owned&&p.2.ok (inO h h')&&q) (e p.1)))
theorem TM {f:Nat} {sp:Eng.Obj} (h:an Tryz.prog f sp):an Tryz.prog f (ahW sp):=by
 refine ⟨h.body,fun args h0 v h' ν w hG hF ha hb hr hv ho => ?_⟩;unfold ahW at hv;unfold wN at hv;split at hv
 ·rename_i sz n r;have key:=h.calls _ (dB 0 n h0) v h' ν w hG (fun k hk=>hF k (kr.1 hk)) (by rw [show inH (dB 0 n h0)=inH h0 from funext fun j=>lK];exact ha) (fun i b e => ?_) ⟨fun i b e => ?_,fun i j bi bj ne ei ej hown => ?_⟩ hv (by rw [SL];exact ho)
  ·refine key.mono ?_;rintro e w' ⟨ν',e1,e2,e3,e4,e5⟩;exact ⟨ν',e1,fun i hi=>e2 i (by rw [lK];exact hi),e3,fun i b hb' k hk=>(e4 i b hb' k hk).imp kr.1 id,e5.weaken fun k hk=>kr.1 hk⟩
  ·rw [bO] at e;obtain ⟨c,hc,rfl⟩:=ajD.1 e;rw [show inH (dB 0 n h0)=inH h0 from funext fun j=>lK,mP];refine ⟨?_,(hb i c hc).2⟩;split
   ·rw [wV];exact (hb i c hc).1
   ·exact (hb i c hc).1
  ·rw [bO] at e;obtain ⟨c,hc,rfl⟩:=ajD.1 e;have d:=hr.den i c hc;split
   ·exact qD c d
   ·exact d
  ·rw [bO] at ei ej;obtain ⟨c1,hc1,rfl⟩:=ajD.1 ei;obtain ⟨c2,hc2,rfl⟩:=ajD.1 ej;refine hr.dis i j c1 c2 ne hc1 hc2 ?_;split at hown
   ·rwa [cP] at hown
   ·exact hown
 ·exact h.calls args h0 v h' ν w hG hF ha hb hr hv ho
theorem I7 {n:Nat} {l:List Rv} (h:n<=l.length):n=(l.take n).length:=by rw [ajM];omega
def limF (n:Nat):Nat:=Go.Lib.bitLen (IntKind.wrap .u64 (n:Int)).toNat
theorem Zj (n:Nat) (l:List Rv):T.path [true,true] (T.anon (sfX [.sub 0 3 0 n,.raw (.func (.func 141) #[] #[])] [(0,rB l)]))=some ([(decide (0<=IntKind.wrap .u64 (n:Int))&&decide (IntKind.wrap .u64 (n:Int)<=1000000),true),(pqB n 0 n (limF n:Int) l,true)],(.tup [],[(0,rB (rf l (Int.toNat (limF n:Int))))])):=by kernel_rfl
theorem Zd {n:Nat} {l:List Rv} (hn:n=l.length) (h0:0<n) (h1:n<=1000000) (hs:l.all ka=true):(sfX [.sub 0 3 0 n,.raw (.func (.func 141) #[] #[])] [(0,rB l)]).eval=some (.tup [],[(0,rB (rf l (limF n)))]):=by
 rw [<- T.aiW (t:=sfX _ _)];have w:IntKind.wrap .u64 (n:Int)=(n:Int):=by rw [oe];omega
 have hl:limF n<4611686018427387904:=by
  unfold limF;rw [w];have:=Go.Lib.bitLen_le n 62 (by omega) (by omega);exact Nat.lt_of_le_of_lt this (by omega)
 have way:=Zj n l;rw [Int.toNat_natCast] at way;refine T.aiU way ⟨?_,?_,trivial⟩
 ·rw [w,c9 (show 0<=(n:Int) by omega),c9 (show (n:Int)<=1000000 by omega)];rfl
 ·unfold pqB;rw [c9 hn,c9 h0,c9 h1,c9 (rfl:(0:Int)=0),c9 (rfl:(n:Int)=n),c9 (show 0<=(limF n:Int) by omega),c9 (show (limF n:Int)<4611686018427387904 by omega),hs];rfl
def sfB (n:Nat) (l:List Rv):Bool:=decide (n<=l.length)&&(decide (0<n)&&(decide (n<=1000000)&&(l.take n).all ka))
def sfS:Eng.Obj
 | [.sub 0 3 0 n,.raw (.func (.func g) x y)],[(0,.lst true t [.int .u32,.int .i64,.int .i64] l)] =>
  if t=239 then if g=141 then if x.size=0 then if y.size=0 then
   .ite none (sfB n l) (.ret (.tup [],[(0,rB (rf (List.take n l) (limF n)))])) .fail else .fail else .fail else .fail else .fail
 | _,_=>.fail
theorem Wc:an Tryz.prog 140 sfS:=(TM aaZ).aiY fun args h r e=>by
 unfold sfS at e;split at e
 ·rename_i n g x y t l;obtain ⟨q1,e1⟩:=jT e;obtain ⟨q2,e2⟩:=jT e1;obtain ⟨q3,e3⟩:=jT e2;obtain ⟨q4,e4⟩:=jT e3;obtain ⟨hb,e5⟩:=gy e4;obtain rfl:=AI e5;clear e e1 e2 e3 e4 e5;subst q1 q2;obtain rfl:x=#[]:=Array.eq_empty_of_size_eq_zero q3;obtain rfl:y=#[]:=Array.eq_empty_of_size_eq_zero q4;unfold sfB at hb;simp only [AS,By] at hb;obtain ⟨c1,c2,c3,c4⟩:=hb;have c1:n<=List.length (α:=Rv) l:=c1;exact Zd (l:=List.take (α:=Rv) n l) (I7 c1) c2 c3 c4
 ·cases e
def clX:Eng.Spec:=aM B0 aa 135
theorem Aw:aj Tryz.prog 135 clX:=af zM mixed Tryz.func135 (by kernel_rfl) (by kernel_rfl)
def rI (l:List Int):V:=.orow 3 [.int .i64] l
theorem Xz (l:List Int):T.path [true,true,true] (T.anon (clX [rI l]))=some ([(decide (0<l.length),true),(decide (0+l.length<=l.length)&&(decide (0<=([]:List Int).length)&&decide (0+((l.drop 0).take l.length).length<=1000000)),true),(decide (0+((l.drop 0).take l.length).length=(([]:List Int).take 0++(l.drop 0).take l.length).length),true)],rI ((l.drop 0).take l.length)):=by kernel_rfl
theorem UM (a:Addr) (c:Nat):T.path [true,true] (T.anon (clX [.raw (.slice (some a) 0 c)]))=some ([(true&&(decide (0<=([]:List Int).length)&&decide (0+([]:List Int).length<=1000000)),true),(decide (0+([]:List Int).length=(([]:List Int).take 0++[]).length),true)],rI []):=by kernel_rfl
theorem R9:T.path [true] (T.anon (clX [.raw (.slice none 0 0)]))=some ([(decide (0=([]:List Int).length),true)],rI []):=by kernel_rfl
theorem aaG {l:List Int} (h:¬ 0<l.length):l=[]:=List.eq_nil_of_length_eq_zero (by omega)
theorem Xf {l:List Int} (h0:0<l.length) (h1:l.length<=1000000):(clX [rI l]).eval=some (rI l):=by
 rw [<- T.aiW (t:=clX _)];have way:=Xz l;have e:(l.drop 0).take l.length=l:=by rw [List.drop_zero,List.take_length]
 rw [e] at way;refine T.aiU way ⟨c9 h0,?_,c9 ?_,trivial⟩
 ·rw [c9 (show 0+l.length<=l.length by omega),c9 (show 0+l.length<=1000000 by omega)];rfl
 ·rw [List.take_zero,List.nil_append];omega
def clS:Eng.Spec
 | [.orow t [.int .i64] l]=>if t=3 then .ite none (decide (List.length l<=1000000)) (.ret (.orow 3 [.int .i64] l)) .fail else .fail
 | _=>.fail
theorem aby:aj Tryz.prog 135 clS:=by
 refine ⟨Aw.body,fun args v xs w hG hrow hv hrv hh => ?_⟩;unfold clS at hv;split at hv
 ·rename_i t l;obtain ⟨q1,e1⟩:=jT hv;obtain ⟨hl,e2⟩:=gy e1;obtain rfl:=AI e2;clear hv e1 e2;subst q1;have hl:List.length (α:=Int) l<=1000000:=IS hl;obtain ⟨x,rfl,hx⟩:∃ x,xs=[x]/\holdsP 0 w (rI l) x:=by
   match xs,hh with
   | [],hh=>exact hh.elim
   | [x],hh=>exact ⟨x,rfl,hh.1⟩
   | _::_::_,hh=>exact hh.2.elim
  by_cases h0:0<List.length (α:=Int) l
  ·refine Aw.calls [rI l] (rI l) [x] w hG hrow ?_ hrv ⟨hx,trivial⟩;exact Xf h0 hl
  ·have e0:l=[]:=aaG h0;subst e0;obtain ⟨at_,cap,rfl,hc,hr⟩:=hx;cases at_ with
   | none =>
    have hc0:cap=0:=hc.2 rfl;subst hc0;exact Aw.calls [.raw (.slice none 0 0)] (rI []) [.slice none 0 0] w hG rfl ((T.aiW (t:=clX _)).symm.trans (T.aiU R9 ⟨rfl,trivial⟩)) hrv ⟨rfl,trivial⟩
   | some a =>
    exact Aw.calls [.raw (.slice (some a) 0 cap)] (rI []) [.slice (some a) 0 cap] w hG rfl ((T.aiW (t:=clX _)).symm.trans (T.aiU (UM a cap) ⟨rfl,rfl,trivial⟩)) hrv ⟨rfl,trivial⟩
 ·cases hv
def B5:Cfg:=⟨Tryz.prog,lookG [(135,.val clS),(137,.val scS),(136,.obj hpS),(138,.obj lnS),(139,.obj hqS),(140,.obj sfS)],[],0⟩
theorem TR:B5.Ok:=Cfg.ok ⟨aby,Ff,abd,G8,XS,Wc,trivial⟩ trivial
def DK:Code:=bN Tryz.prog 105 0
structure PFi where (mo:Int) (k:Nat) (z:Int) (ids:List Int)
structure AFi where (i:Int) (n:Nat) (l:List Rv)
abbrev SFi:List (Nat × Src):=[(0,.same),(33,.same),(2000,.cell 33 0)]
def Jy (p:PFi) (a:AFi):List V:=[iv p.mo,.ptr 33 0,.sub 0 1 0 p.k,iv p.z,iv a.i]
def Dt (p:PFi) (a:AFi):List Blk:=[.lst false 3 [.int .i64] p.ids,.cells 233 [.sub 2000 3 0 a.n],.lst true 239 [.int .u32,.int .i64,.int .i64] a.l]
def FFi (p:PFi) (a:AFi):St:=bG [1,5,21,22,23] (aF SFi) 2001 60 (Jy p a) (Dt p a)
def AJ (p:PFi) (a:AFi):T (Ex × St):=T.anon (bA B5 aa DK [1,5,21,22,23] SFi 2000 2001 (bG [1,5,21,22,23] (aF SFi) 2001 60 (Jy p a) (Dt p a)))
def uj:V->Option ((Int))
 | .s (.int .i64 mo)=>some (mo)
 | _=>none
theorem xL (b:V) (x0:(Int)) (h:uj b=some x0):b=iv (x0):=by
 unfold uj at h;split at h
 ·cases h;rfl
 ·cases h
def tS:V->Option (Unit)
 | .ptr 33 0=>some ()
 | _=>none
theorem yw (b:V) (x1:Unit) (h:tS b=some x1):b=.ptr 33 0:=by
 unfold tS at h;split at h
 ·cases h;rfl
 ·cases h
def sF:V->Option ((Nat))
 | .sub 0 1 0 k=>some (k)
 | _=>none
theorem yu (b:V) (x2:(Nat)) (h:sF b=some x2):b=.sub 0 1 0 (x2):=by
 unfold sF at h;split at h
 ·cases h;rfl
 ·cases h
def uH:V->Option ((Int))
 | .s (.int .i64 z)=>some (z)
 | _=>none
theorem xO (b:V) (x3:(Int)) (h:uH b=some x3):b=iv (x3):=by
 unfold uH at h;split at h
 ·cases h;rfl
 ·cases h
def tQ:V->Option ((Int))
 | .s (.int .i64 i)=>some (i)
 | _=>none
theorem yW (b:V) (x4:(Int)) (h:tQ b=some x4):b=iv (x4):=by
 unfold tQ at h;split at h
 ·cases h;rfl
 ·cases h
def sy:Blk->Option ((List Int))
 | .lst false tt0 [.int .i64] ids=>if tt0=3 then some (ids) else none
 | _=>none
theorem yP (b:Blk) (y0:(List Int)) (h:sy b=some y0):b=.lst false 3 [.int .i64] (y0):=by
 unfold sy at h;split at h
 ·obtain ⟨e0,h⟩:=ae h;subst e0;cases h;rfl
 ·cases h
def tx:Blk->Option ((Nat))
 | .cells tt0 [.sub 2000 3 0 n]=>if tt0=233 then some (n) else none
 | _=>none
theorem yc (b:Blk) (y1:(Nat)) (h:tx b=some y1):b=.cells 233 [.sub 2000 3 0 (y1)]:=by
 unfold tx at h;split at h
 ·obtain ⟨e0,h⟩:=ae h;subst e0;cases h;rfl
 ·cases h
def tM:Blk->Option ((List Rv))
 | .lst true tt0 [.int .u32,.int .i64,.int .i64] l=>if tt0=239 then some (l) else none
 | _=>none
theorem ye (b:Blk) (y2:(List Rv)) (h:tM b=some y2):b=.lst true 239 [.int .u32,.int .i64,.int .i64] (y2):=by
 unfold tM at h;split at h
 ·obtain ⟨e0,h⟩:=ae h;subst e0;cases h;rfl
 ·cases h
def zl:List V->List Blk->Option (PFi × AFi)
 | [v0,v1,v2,v3,v4],[b0,b1,b2]=>(uj v0).bind fun x0=>(tS v1).bind fun x1=>(sF v2).bind fun x2=>(uH v3).bind fun x3=>(tQ v4).bind fun x4=>(sy b0).bind fun y0=>(tx b1).bind fun y1=>(tM b2).bind fun y2=>some (⟨(x0),(x2),(x3),(y0)⟩,⟨(x4),(y1),(y2)⟩)
 | _,_=>none
theorem te (l:List V) (b:List Blk) (d:PFi × AFi) (h:zl l b=some d):l=Jy d.1 d.2/\b=Dt d.1 d.2:=by
 unfold zl at h;split at h
 ·obtain ⟨x0,hx0,h⟩:=AT.1 h;obtain ⟨x1,hx1,h⟩:=AT.1 h;obtain ⟨x2,hx2,h⟩:=AT.1 h;obtain ⟨x3,hx3,h⟩:=AT.1 h;obtain ⟨x4,hx4,h⟩:=AT.1 h;obtain ⟨y0,hy0,h⟩:=AT.1 h;obtain ⟨y1,hy1,h⟩:=AT.1 h;obtain ⟨y2,hy2,h⟩:=AT.1 h;have ex0:=xL _ _ hx0;have ex1:=yw _ _ hx1;have ex2:=yu _ _ hx2;have ex3:=xO _ _ hx3;have ex4:=yW _ _ hx4;have ey0:=yP _ _ hy0;have ey1:=yc _ _ hy1;have ey2:=ye _ _ hy2;cases h;subst ex0 ex1 ex2 ex3 ex4 ey0 ey1 ey2;exact ⟨rfl,rfl⟩
 ·cases h
def VY:Nat:=(aq DK).getD 0
theorem xv:aq DK=some VY:=by kernel_rfl
end Go.Proofs.YtefkegpbpaoadaaGreatDoor.Sub
namespace Go.Proofs.YtefkegpbpaoadaaGreatDoor.Sub
def wZ:Nat->List Int->List Rv
 | _,[]=>[]
 | k,x::r=>(scI x,x,(k:Int))::wZ (k+1) r
def bQ (ids:List Int):List Rv:=wZ 0 ids
theorem sB:∀ (ids:List Int) (k:Nat),(wZ k ids).length=ids.length
 | [],_=>rfl
 | x::r,k=>by simp only [wZ,List.length_cons,sB r (k+1)]
theorem AM:∀ (ids:List Int) (k j:Nat),(wZ k ids)[j]?=(ids[j]?).map fun x=>(scI x,x,((k+j:Nat):Int))
 | [],k,j=>by simp [wZ]
 | x::r,k,0=>by simp [wZ]
 | x::r,k,j+1=>by
  simp only [wZ,List.getElem?_cons_succ];rw [AM r (k+1) j,show k+1+j=k+(j+1) by omega]
theorem uM:∀ (ids:List Int) (k:Nat),∀ x∈wZ k ids,(k:Int)<=x.2.2/\x.2.2<((k+ids.length:Nat):Int)
 | [],k,x,h=>by cases h
 | y::r,k,x,h=>by
  rcases ajI.1 h with rfl | h
  ·simp only [List.length_cons];omega
  ·have:=uM r (k+1) x h;simp only [List.length_cons];omega
theorem pg:∀ (ids:List Int) (k:Nat),(wZ k ids).Pairwise (fun a b=>a.2.2<b.2.2)
 | [],_=>List.Pairwise.nil
 | y::r,k=>by
  refine List.Pairwise.cons (fun b hb => ?_) (pg r (k+1));have:=uM r (k+1) b hb;show (k:Int)<b.2.2;omega
theorem wP (ids:List Int):(bQ ids).Nodup:=(pg ids 0).imp fun {a b} h e=>by rw [e] at h;omega
def Spl (m:Nat) (f L:List Rv):Prop:=∃ g,(f++g).Perm L/\(∀ a∈f,∀ b∈g,lt3 a b=true)/\f.length=min m L.length
theorem Spl.nil (m:Nat):Spl m [] []:=⟨[],List.Perm.refl _,fun a h=>(by cases h),by simp⟩
theorem Spl.put {m:Nat} {f L f':List Rv} {x:Rv} (h:Spl m f L) (hm:f.length+1<=m) (hp:f'.Perm (f++[x])):Spl m f' (L++[x]):=by
 obtain ⟨g,h1,h2,h3⟩:=h;have hl:f.length=L.length:=by omega
 have hg:g=[]:=by
  have:=h1.length_eq;rw [IN] at this;exact List.eq_nil_of_length_eq_zero (by omega)
 subst hg;rw [List.append_nil] at h1;refine ⟨[],?_,fun a _ b hb=>(by cases hb),?_⟩
 ·rw [List.append_nil];exact hp.trans (h1.append_right [x])
 ·rw [hp.length_eq,IN,IN];simp only [List.length_singleton];omega
theorem Spl.pop {m:Nat} {f L f':List Rv} {x t:Rv} (h:Spl m f L) (hm:f.length=m) (hp:(f'++[t]).Perm (f++[x])) (hn:(L++[x]).Nodup) (ht:∀ a∈f',lt3 t a=false):Spl m f' (L++[x]):=by
 obtain ⟨g,h1,h2,h3⟩:=h;have hall:(f'++(t::g)).Perm (L++[x]):=by
  have e1:f'++(t::g)=(f'++[t])++g:=by simp
  rw [e1];refine (hp.append_right g).trans ?_;rw [List.append_assoc];refine (List.Perm.append_left f List.perm_append_comm).trans ?_;rw [<- List.append_assoc];exact h1.append_right [x]
 have hnd:(f'++(t::g)).Nodup:=hall.nodup_iff.2 hn;have htf:t ∉ f':=fun hf=>by
  have:=(List.nodup_append.1 hnd).2.2 t hf t ajN;exact this rfl
 have hlt:∀ a∈f',lt3 a t=true:=fun a ha=>by
  cases hb:lt3 a t with
  | true=>rfl
  | false=>exact absurd (QX hb (ht a ha)) (fun e=>htf (e ▸ ha))
 refine ⟨t::g,hall,fun a ha b hb => ?_,?_⟩
 ·rcases ajI.1 hb with rfl | hb
  ·exact hlt a ha
  ·have haq:a∈f++[x]:=hp.mem_iff.1 (List.mem_append_left _ ha);rcases List.mem_append.1 haq with q | q
   ·exact h2 a q b hb
   ·have hax:a=x:=by simpa using q
    have htq:t∈f++[x]:=hp.mem_iff.1 (List.mem_append_right _ (ajS.2 rfl));rcases List.mem_append.1 htq with q2 | q2
    ·exact Fh (hlt a ha) (h2 t q2 b hb)
    ·have htx:t=x:=by simpa using q2
     exact absurd (hax.trans htx.symm ▸ ha) htf
 ·have:=hp.length_eq;simp only [IN,List.length_singleton] at this ⊢;have h4:f.length=min m L.length:=h3;omega
def NM (L:List Rv) (x:Rv):Nat:=L.countP fun y=>lt3 y x
def kX (L:List Rv) (m:Nat):List Rv:=L.filter fun x=>decide (NM L x<m)
theorem Spl.is {m:Nat} {f L:List Rv} (h:Spl m f L) (hm:m<=L.length):f.Perm (kX L m):=by
 obtain ⟨g,h1,h2,h3⟩:=h;have hf:f.length=m:=by omega
 have hr:∀ x,NM L x=f.countP (fun y=>lt3 y x)+g.countP (fun y=>lt3 y x):=fun x=>by
  unfold NM;rw [<- h1.countP_eq,List.countP_append]
 have e1:f.filter (fun x=>decide (NM L x<m))=f:=by
  rw [List.filter_eq_self];intro a ha;refine c9 ?_;rw [hr a];have z:g.countP (fun y=>lt3 y a)=0:=List.countP_eq_zero.2 fun b hb=>by rw [nk (h2 a ha b hb)];decide
  have l:f.countP (fun y=>lt3 y a)<f.length:=by
   rw [List.countP_eq_length_filter];exact List.length_filter_lt_length_iff_exists.2 ⟨a,ha,by rw [oy];decide⟩
  omega
 have e2:g.filter (fun x=>decide (NM L x<m))=[]:=by
  rw [List.filter_eq_nil_iff];intro b hb;rw [By,hr b];have l:f.countP (fun y=>lt3 y b)=f.length:=List.countP_eq_length.2 fun a ha=>h2 a ha b hb;omega
 have:=h1.filter (fun x=>decide (NM L x<m));rw [List.filter_append,e1,e2,List.append_nil] at this;exact this
theorem H2 {ids:List Int} {m:Nat} {f s:List Rv} (hf:f.Perm (kX (bQ ids) m)) (hs:s.Perm f) (hr:s.Pairwise (fun a b=>a.2.2<=b.2.2)):s=kX (bQ ids) m:=by
 have hp:=pg ids 0;have hsub:∀ x∈kX (bQ ids) m,x∈bQ ids:=fun x hx=>(List.mem_filter.1 hx).1;have one:∀ a∈bQ ids,∀ b∈bQ ids,a.2.2=b.2.2->a=b:=by
  intro a ha b hb e;obtain ⟨i,hi,rfl⟩:=List.getElem_of_mem ha;obtain ⟨j,hj,rfl⟩:=List.getElem_of_mem hb;rcases Nat.lt_trichotomy i j with q | q | q
  ·have:=(List.pairwise_iff_getElem.1 hp) i j hi hj q;unfold bQ at e;omega
  ·subst q;rfl
  ·have:=(List.pairwise_iff_getElem.1 hp) j i hj hi q;unfold bQ at e;omega
 refine List.Perm.eq_of_pairwise (le:=fun a b:Rv=>a.2.2<=b.2.2) ?_ hr ?_ (hs.trans hf)
 ·intro a b ha hb h1 h2;exact one a (hsub a ((hs.trans hf).mem_iff.1 ha)) b (hsub b hb) (by omega)
 ·exact (List.Pairwise.filter _ hp).imp fun {a b} h=>Int.le_of_lt h
def ofV (ids:List Int) (m:Int):List Int:=if m<1\/(ids.length:Int)<=m then ids else (kX (bQ ids) m.toNat).map (fun x=>x.2.1)
end Go.Proofs.YtefkegpbpaoadaaGreatDoor.Sub
namespace Go.Proofs.YtefkegpbpaoadaaGreatDoor.Sub
open Go.Eng Go.RowKit
def idA (p:PFi) (a:AFi):Bool:=decide (0<=a.i)&&(decide (a.i<(p.k:Int))&&decide (0+a.i.toNat<p.ids.length))
def ldA (p:PFi) (a:AFi):Bool:=decide (0+a.i.toNat<p.ids.length)
def rvA (p:PFi) (a:AFi):Rv:=(scI (p.ids.getD (0+a.i.toNat) 0),p.ids.getD (0+a.i.toNat) 0,a.i)
def poA2 (p:PFi) (a:AFi):Bool:=acI (a.n+1) (fa a.n a.l (rvA p a))
theorem fi_x (p:PFi) (a:AFi):T.path [false] (AJ p a)=some ([(decide (a.i<p.z),false)],(.exit 0,FFi p a)):=by kernel_rfl
theorem fi_p (p:PFi) (a:AFi):T.path [true,true,true,true,false] (AJ p a)=some ([(decide (a.i<p.z),true),(idA p a,true),(ldA p a,true),(Fk a.n a.l,true),(decide (p.mo<((a.n+1:Nat):Int)),false)],(.normal,FFi p ⟨IntKind.wrap .i64 (a.i+1),a.n+1,fa a.n a.l (rvA p a)⟩)):=by kernel_rfl
theorem fi_q (p:PFi) (a:AFi):T.path [true,true,true,true,true,true] (AJ p a)=some ([(decide (a.i<p.z),true),(idA p a,true),(ldA p a,true),(Fk a.n a.l,true),(decide (p.mo<((a.n+1:Nat):Int)),true),(poA2 p a,true)],(.normal,FFi p ⟨IntKind.wrap .i64 (a.i+1),a.n+1 - 1,pR (a.n+1) (fa a.n a.l (rvA p a))⟩)):=by kernel_rfl
structure ajr (p:PFi) (a:AFi):Prop where
 k:p.k=p.ids.length
 z:p.z=(p.k:Int)
 k1:p.k<=1000000
 mo:1<=p.mo
 i0:0<=a.i
 i1:a.i<=p.z
 n:a.n<=a.l.length
 heap:Hp (a.l.take a.n) a.n
 spl:Spl p.mo.toNat (a.l.take a.n) ((bQ p.ids).take a.i.toNat)
def H7 (p:PFi) (a:AFi):Bool:=decide (a.i<p.z)
def OK (p:PFi) (a:AFi):Nat:=(p.z - a.i).toNat
theorem Hp.take {l:List Rv} {n m:Nat} (h:Hp l n) (hm:m<=n) (hl:n<=l.length):Hp (l.take m) m:=by
 have g:∀ k,k<m->G (l.take m) k=G l k:=fun k hk=>by
  unfold G;rw [IT,IT,List.getElem?_take,if_pos hk]
 intro k hk hn;rw [g _ (by omega),g _ hn];exact h k hk (by omega)
theorem Hp.of {l:List Rv} {n:Nat} (h:Hp l n) (x:Rv):∀ a∈l,n=l.length->lt3 (G l 0) a=false:=by
 intro a ha hn;obtain ⟨i,hi,rfl⟩:=List.getElem_of_mem ha;have:=h.top i (by omega)
 rwa [acx hi] at this
theorem EN {l:List Rv} {k:Nat} (h:l.length=k+1):l.take (k+1 - 1)++[l[k+1 - 1]'(by omega)]=l:=by
 have e:l.take (k+1 - 1+1)=l.take (k+1 - 1)++[l[k+1 - 1]'(by omega)]:=by
  rw [List.take_add_one,OF (by omega)];rfl
 rw [<- e];exact ajP (by omega)
theorem Bb (p:PFi) (a:AFi) (h:ajr p a) (hg:H7 p a=true):∃ b,dg ajr AJ FFi OK p a b:=by
 have hi:a.i<p.z:=IS hg;obtain ⟨h1,h2,h3,h4,h5,h6,h7,h8,h9⟩:=h;have hl:a.i.toNat<p.ids.length:=by omega
 have w:IntKind.wrap .i64 (a.i+1)=a.i+1:=wrap64_in (by omega) (by omega);have hfl:(a.l.take a.n).length=a.n:=by rw [ajM];omega
 have hrl:(bQ p.ids).length=p.ids.length:=sB _ _;have hn:a.n=min p.mo.toNat a.i.toNat:=by
  obtain ⟨g,_,_,e⟩:=h9;rw [hfl,ajM,hrl] at e;omega
 have c1:idA p a=true:=by
  unfold idA;rw [c9 h5,c9 (show a.i<(p.k:Int) by omega),c9 (show 0+a.i.toNat<p.ids.length by omega)];rfl
 have c2:ldA p a=true:=c9 (by omega);have hpu:B9 a.n a.l:=⟨h7,by omega,h8⟩
 obtain ⟨u1,u2⟩:=TT hpu (rvA p a);have ex:(bQ p.ids)[a.i.toNat]?=some (rvA p a):=by
  unfold bQ rvA;rw [AM,Nat.zero_add,IT,OF hl];simp only [Option.map_some,Option.getD_some];have:((a.i.toNat:Nat):Int)=a.i:=by omega
  rw [this]
 have et:(bQ p.ids).take (a.i+1).toNat=(bQ p.ids).take a.i.toNat++[rvA p a]:=by
  rw [show (a.i+1).toNat=a.i.toNat+1 by omega,List.take_add_one,ex];rfl
 have ul:(fa a.n a.l (rvA p a)).length=a.n+1:=by
  rw [u1.length_eq,IN,hfl];rfl
 have mu:∀ n l,OK p ⟨a.i+1,n,l⟩<OK p a:=fun n l=>by show (p.z - (a.i+1)).toNat<(p.z - a.i).toNat;omega
 by_cases q:p.mo<((a.n+1:Nat):Int)
 ·have hpo:Vp (a.n+1) (fa a.n a.l (rvA p a)):=⟨ul.symm,by omega,by omega,u2⟩
  obtain ⟨o1,o2,o3⟩:=Ol hpo;have way:=fi_q p a;rw [w] at way;have ol:(pR (a.n+1) (fa a.n a.l (rvA p a))).length=a.n+1:=by rw [o1.length_eq,ul]
  refine ⟨_,T.aiU way ⟨hg,c1,c2,uk.2 hpu,c9 q,Ee.2 hpo,trivial⟩,⟨h1,h2,h3,h4,by show 0<=a.i+1;omega,by show a.i+1<=p.z;omega,?_,?_,?_⟩,mu _ _⟩
  ·show a.n+1 - 1<=(pR (a.n+1) _).length;omega
  ·show Hp ((pR (a.n+1) (fa a.n a.l (rvA p a))).take (a.n+1 - 1)) (a.n+1 - 1);exact Hp.take o2 (ajQ _) (by omega)
  ·show Spl p.mo.toNat ((pR (a.n+1) (fa a.n a.l (rvA p a))).take (a.n+1 - 1)) ((bQ p.ids).take (a.i+1).toNat);rw [et];have esp:(pR (a.n+1) (fa a.n a.l (rvA p a))).take (a.n+1 - 1)++[G (fa a.n a.l (rvA p a)) 0]=pR (a.n+1) (fa a.n a.l (rvA p a)):=by
    rw [<- o3,acx (by omega)];exact EN (by omega)
   refine Spl.pop h9 (by omega) (t:=G (fa a.n a.l (rvA p a)) 0) (x:=rvA p a) ?_ ?_ ?_
   ·rw [esp];exact o1.trans u1
   ·rw [<- et];exact (wP p.ids).sublist (List.take_sublist _ _)
   ·intro b hb;have hb2:b∈fa a.n a.l (rvA p a):=o1.mem_iff.1 (List.mem_of_mem_take hb);exact u2.of b b hb2 ul.symm
 ·have way:=fi_p p a;rw [w] at way;have etk:(fa a.n a.l (rvA p a)).take (a.n+1)=fa a.n a.l (rvA p a):=ajP (by omega);refine ⟨_,T.aiU way ⟨hg,c1,c2,uk.2 hpu,BY q,trivial⟩,⟨h1,h2,h3,h4,by show 0<=a.i+1;omega,by show a.i+1<=p.z;omega,?_,?_,?_⟩,mu _ _⟩
  ·show a.n+1<=(fa a.n a.l _).length;omega
  ·show Hp ((fa a.n a.l (rvA p a)).take (a.n+1)) (a.n+1);rw [etk];exact u2
  ·show Spl p.mo.toNat ((fa a.n a.l (rvA p a)).take (a.n+1)) ((bQ p.ids).take (a.i+1).toNat);rw [etk,et];exact Spl.put h9 (by omega) u1
def yO (p:PFi) (a:AFi):T (Ex × St):=.ret (.exit 0,FFi p a)
theorem agV (p:PFi) (a:AFi) (h:ajr p a) (hg:H7 p a=false) (r:Ex × St) (hr:(yO p a).eval=some r):r.1≠.normal/\(AJ p a).eval=some r:=by
 obtain rfl:=AI hr;exact ⟨by simp,T.aiU (fi_x p a) ⟨hg,trivial⟩⟩
def GU:bE:=Vr [1,5,21,22,23] SFi 2000 2001 60 zl ajr H7 AJ FFi OK yO
theorem xb:aI B5 DK GU:=pG (vs:=Jy) (bs:=Dt) TR mixed (aw _) te (fun _ _=>rfl) (fun _ _=>rfl) Bb agV
def aai:bE:=fun st=>(ajo 33 0 239 KR st).bind GU
theorem Qo:aI B5 DK aai:=xb.ajo 33 0 239 KR
def Yp:Code:=bN Tryz.prog 105 1
structure PSe where (n:Nat) (z:Int) (l:List Rv)
structure ASe where (k:Nat) (i:Int) (o:List Int)
abbrev SSe:List (Nat × Src):=[(2000,.same),(4000,.tmp 8)]
def adB (p:PSe) (a:ASe):List V:=[.sub 4000 1 0 a.k,.sub 2000 3 0 p.n,iv p.z,iv a.i]
def abZ (p:PSe) (a:ASe):List Blk:=[.lst true 239 [.int .u32,.int .i64,.int .i64] p.l,.lst true 3 [.int .i64] a.o]
def FSe (p:PSe) (a:ASe):St:=bG [8,47,48,49] (aF SSe) 4001 60 (adB p a) (abZ p a)
def VI (p:PSe) (a:ASe):T (Ex × St):=T.anon (bA B5 aa Yp [8,47,48,49] SSe 4000 4001 (bG [8,47,48,49] (aF SSe) 4001 60 (adB p a) (abZ p a)))
def rG:V->Option ((Nat))
 | .sub 4000 1 0 k=>some (k)
 | _=>none
theorem yG (b:V) (x0:(Nat)) (h:rG b=some x0):b=.sub 4000 1 0 (x0):=by
 unfold rG at h;split at h
 ·cases h;rfl
 ·cases h
def tu:V->Option ((Nat))
 | .sub 2000 3 0 n=>some (n)
 | _=>none
theorem xx (b:V) (x1:(Nat)) (h:tu b=some x1):b=.sub 2000 3 0 (x1):=by
 unfold tu at h;split at h
 ·cases h;rfl
 ·cases h
def ta:V->Option ((Int))
 | .s (.int .i64 z)=>some (z)
 | _=>none
theorem zL (b:V) (x2:(Int)) (h:ta b=some x2):b=iv (x2):=by
 unfold ta at h;split at h
 ·cases h;rfl
 ·cases h
def sK:V->Option ((Int))
 | .s (.int .i64 i)=>some (i)
 | _=>none
theorem yN (b:V) (x3:(Int)) (h:sK b=some x3):b=iv (x3):=by
 unfold sK at h;split at h
 ·cases h;rfl
 ·cases h
def sQ:Blk->Option ((List Rv))
 | .lst true tt0 [.int .u32,.int .i64,.int .i64] l=>if tt0=239 then some (l) else none
 | _=>none
theorem xW (b:Blk) (y0:(List Rv)) (h:sQ b=some y0):b=.lst true 239 [.int .u32,.int .i64,.int .i64] (y0):=by
 unfold sQ at h;split at h
 ·obtain ⟨e0,h⟩:=ae h;subst e0;cases h;rfl
 ·cases h
def sH:Blk->Option ((List Int))
 | .lst true tt0 [.int .i64] o=>if tt0=3 then some (o) else none
 | _=>none
theorem xA (b:Blk) (y1:(List Int)) (h:sH b=some y1):b=.lst true 3 [.int .i64] (y1):=by
 unfold sH at h;split at h
 ·obtain ⟨e0,h⟩:=ae h;subst e0;cases h;rfl
 ·cases h
def S5:List V->List Blk->Option (PSe × ASe)
 | [v0,v1,v2,v3],[b0,b1]=>(rG v0).bind fun x0=>(tu v1).bind fun x1=>(ta v2).bind fun x2=>(sK v3).bind fun x3=>(sQ b0).bind fun y0=>(sH b1).bind fun y1=>some (⟨(x1),(x2),(y0)⟩,⟨(x0),(x3),(y1)⟩)
 | _,_=>none
theorem Jp (l:List V) (b:List Blk) (d:PSe × ASe) (h:S5 l b=some d):l=adB d.1 d.2/\b=abZ d.1 d.2:=by
 unfold S5 at h;split at h
 ·obtain ⟨x0,hx0,h⟩:=AT.1 h;obtain ⟨x1,hx1,h⟩:=AT.1 h;obtain ⟨x2,hx2,h⟩:=AT.1 h;obtain ⟨x3,hx3,h⟩:=AT.1 h;obtain ⟨y0,hy0,h⟩:=AT.1 h;obtain ⟨y1,hy1,h⟩:=AT.1 h;have ex0:=yG _ _ hx0;have ex1:=xx _ _ hx1;have ex2:=zL _ _ hx2;have ex3:=yN _ _ hx3;have ey0:=xW _ _ hy0;have ey1:=xA _ _ hy1;cases h;subst ex0 ex1 ex2 ex3 ey0 ey1;exact ⟨rfl,rfl⟩
 ·cases h
def aiw:Nat:=(aq Yp).getD 0
theorem SK:aq Yp=some aiw:=by kernel_rfl
def idB (p:PSe) (a:ASe):Bool:=decide (0<=a.i)&&(decide (a.i<(p.n:Int))&&decide (0+a.i.toNat<p.l.length))
def ldB (p:PSe) (a:ASe):Bool:=decide (0+a.i.toNat<p.l.length)
def xB (p:PSe) (a:ASe):Int:=(p.l.getD (0+a.i.toNat) ((0,0,0):Rv)).2.1
def apB (a:ASe) (x:Int):Bool:=true&&(decide (a.k<=a.o.length)&&decide (a.k+[x].length<=1000000))
theorem se_x (p:PSe) (a:ASe):T.path [false] (VI p a)=some ([(decide (a.i<p.z),false)],(.exit 2,FSe p a)):=by kernel_rfl
theorem se_n (p:PSe) (a:ASe):T.path [true,true,true,true] (VI p a)=some ([(decide (a.i<p.z),true),(idB p a,true),(ldB p a,true),(apB a (xB p a),true)],(.normal,FSe p ⟨a.k+[xB p a].length,IntKind.wrap .i64 (a.i+1),a.o.take a.k++[xB p a]⟩)):=by kernel_rfl
structure NU (p:PSe) (a:ASe):Prop where
 n:p.n=p.l.length
 z:p.z=(p.n:Int)
 n1:p.n<=1000000
 i0:0<=a.i
 i1:a.i<=p.z
 k:a.k=a.o.length
 o:a.o=(p.l.take a.i.toNat).map (fun x=>x.2.1)
def WU (p:PSe) (a:ASe):Bool:=decide (a.i<p.z)
def aeW (p:PSe) (a:ASe):Nat:=(p.z - a.i).toNat
theorem Nq (p:PSe) (a:ASe) (h:NU p a) (hg:WU p a=true):∃ b,dg NU VI FSe aeW p a b:=by
 have hi:a.i<p.z:=IS hg;obtain ⟨h1,h2,h3,h4,h5,h6,h7⟩:=h;have hl:a.i.toNat<p.l.length:=by omega
 have w:IntKind.wrap .i64 (a.i+1)=a.i+1:=wrap64_in (by omega) (by omega);have ex:xB p a=(p.l[a.i.toNat]).2.1:=by
  unfold xB;rw [IT,Nat.zero_add,OF hl];rfl
 have ek:p.l.take (a.i+1).toNat=p.l.take a.i.toNat++[p.l[a.i.toNat]]:=by
  rw [show (a.i+1).toNat=a.i.toNat+1 by omega,List.take_add_one,OF hl];rfl
 have ol:a.o.length=a.i.toNat:=by rw [h7,ajT,ajM];omega
 have c1:idB p a=true:=by
  unfold idB;rw [c9 h4,c9 (show a.i<(p.n:Int) by omega),c9 (show 0+a.i.toNat<p.l.length by omega)];rfl
 have c3:apB a (xB p a)=true:=by
  unfold apB;rw [c9 (show a.k<=a.o.length by omega),c9 (show a.k+[xB p a].length<=1000000 by simp only [List.length_singleton];omega)];rfl
 have way:=se_n p a;rw [w,show a.o.take a.k=a.o from ajP (by omega)] at way;refine ⟨_,T.aiU way ⟨hg,c1,c9 (by omega),c3,trivial⟩,⟨h1,h2,h3,by show 0<=a.i+1;omega,by show a.i+1<=p.z;omega,?_,?_⟩,by show (p.z - (a.i+1)).toNat<(p.z - a.i).toNat;omega⟩
 ·show a.k+[xB p a].length=(a.o++[xB p a]).length;rw [IN];omega
 ·show a.o++[xB p a]=(p.l.take (a.i+1).toNat).map (fun x=>x.2.1);rw [ek,List.map_append,<- h7,ex];rfl
def X7 (p:PSe) (a:ASe):T (Ex × St):=.ret (.exit 2,FSe p a)
theorem exSe (p:PSe) (a:ASe) (h:NU p a) (hg:WU p a=false) (r:Ex × St) (hr:(X7 p a).eval=some r):r.1≠.normal/\(VI p a).eval=some r:=by
 obtain rfl:=AI hr;exact ⟨by simp,T.aiU (se_x p a) ⟨hg,trivial⟩⟩
def V1:bE:=Vr [8,47,48,49] SSe 4000 4001 60 S5 NU WU VI FSe aeW X7
theorem Ti:aI B5 Yp V1:=pG (vs:=adB) (bs:=abZ) TR mixed (aw _) Jp (fun _ _=>rfl) (fun _ _=>rfl) Nq exSe
def ofX:Eng.Spec:=aM B5 (bZ [(VY,aai),(aiw,V1)]) 105
theorem Y7:aj Tryz.prog 105 ofX:=dn TR mixed Tryz.func105 (by kernel_rfl) (by kernel_rfl) (M7 (c:=DK) (c':=Yp) (by kernel_rfl) xv SK (by kernel_rfl) Qo Ti)
def pA (ids:List Int) (m:Int):PFi:=⟨m,ids.length,(ids.length:Int),ids⟩
def aA:AFi:=⟨0,0,[]⟩
def eA (ids:List Int) (m:Int):AFi:=cD (fT ajr H7 AJ FFi OK (pA ids m)) aA
def pB (ids:List Int) (m:Int):PSe:=⟨(eA ids m).n,((eA ids m).n:Int),rf ((eA ids m).l.take (eA ids m).n) (limF (eA ids m).n)⟩
def aB:ASe:=⟨Int.toNat 0,0,List.replicate (Int.toNat 0) 0⟩
def eB (ids:List Int) (m:Int):ASe:=cD (fT NU WU VI FSe aeW (pB ids m)) aB
def cO (ids:List Int) (m:Int):Bool:=bif decide (m<1) then true else decide ((ids.length:Int)<=m)
def tI (l:List Int):List Int:=(l.drop 0).take l.length
theorem of_c (ids:List Int) (m:Int):T.path [true,true,true,true] (T.anon (ofX [rI ids,iv m]))=some ([(cO ids m,true),(decide (0+ids.length<=ids.length),true),(decide ((tI ids).length<=1000000),true),(decide ((tI ids).length=(tI ids).length),true)],rI (tI ids)):=by kernel_rfl
theorem of_n (m:Int):T.path [false,true,true,true,true] (T.anon (ofX [.nilSl,iv m]))=some ([(decide (m<1),false),(bif decide (m<1) then true else decide (((0:Nat):Int)<=m),true),(decide (0+0<=([]:List Int).length),true),(decide (((([]:List Int).drop 0).take 0).length<=1000000),true),(decide (((([]:List Int).drop 0).take 0).length=((([]:List Int).drop 0).take 0).length),true)],rI []):=by kernel_rfl
theorem of_f (ids:List Int) (m:Int):T.path [false,true,true,true,true,true] (T.anon (ofX [rI ids,iv m]))=some ([(cO ids m,false),(ca ajr (pA ids m) aA,true),(sfB (eA ids m).n (eA ids m).l,true),(decide ((0:Int)<=0)&&(decide (0<=m)&&decide (m<=1000000)),true),(ca NU (pB ids m) aB,true),(decide ((eB ids m).k=(eB ids m).o.length),true)],rI (eB ids m).o):=by kernel_rfl
theorem of_run {ids:List Int} (h:ids.length<=1000000) (m:Int):(ofX [rI ids,iv m]).eval=some (rI (ofV ids m)):=by
 rw [<- T.aiW (t:=ofX _)];have ht:tI ids=ids:=by unfold tI;rw [List.drop_zero,List.take_length]
 unfold ofV;by_cases hc:m<1\/(ids.length:Int)<=m
 ·rw [if_pos hc];have way:=of_c ids m;rw [ht] at way;refine T.aiU way ⟨?_,c9 (by omega),c9 h,c9 rfl,trivial⟩;unfold cO;by_cases q:m<1
  ·rw [c9 q];rfl
  ·rw [BY q,c9 (show (ids.length:Int)<=m by omega)];rfl
 ·rw [if_neg hc];have h0:ajr (pA ids m) aA:=⟨rfl,rfl,h,by show 1<=m;omega,ajG _,Int.natCast_nonneg _,ajQ _,fun k h1 h2=>absurd h2 (Nat.not_lt_zero _),Spl.nil _⟩
  obtain ⟨k1,k2⟩:=qW Bb h0;have k1:ajr (pA ids m) (eA ids m):=k1;have k2:H7 (pA ids m) (eA ids m)=false:=k2;obtain ⟨-,-,-,-,i0,i1,n,heap,spl⟩:=k1;have hi:¬ (eA ids m).i<(pA ids m).z:=ajL k2;have i1:(eA ids m).i<=(ids.length:Int):=i1;have hi:¬ (eA ids m).i<(ids.length:Int):=hi;have hrl:(bQ ids).length=ids.length:=sB _ _;have et:(bQ ids).take (eA ids m).i.toNat=bQ ids:=ajP (by omega);have spl:Spl m.toNat ((eA ids m).l.take (eA ids m).n) ((bQ ids).take (eA ids m).i.toNat):=spl;rw [et] at spl;have hfl:((eA ids m).l.take (eA ids m).n).length=(eA ids m).n:=by rw [ajM];omega
  have hn:(eA ids m).n=m.toNat:=by
   obtain ⟨g,_,_,e⟩:=spl;rw [hfl,hrl] at e;omega
  have hp:=spl.is (by omega);have hsm:((eA ids m).l.take (eA ids m).n).all ka=true:=by
   rw [ajE];intro x hx;have hx2:x∈bQ ids:=(List.mem_filter.1 (hp.mem_iff.1 hx)).1;have:=uM ids 0 x hx2;unfold ka;rw [c9 (show 0<=x.2.2 by omega),c9 (show x.2.2<4611686018427387904 by omega)];rfl
  have hs:rf ((eA ids m).l.take (eA ids m).n) (limF (eA ids m).n)=kX (bQ ids) m.toNat:=H2 hp (Mi _ hsm) (Dj _ _);have g0:NU (pB ids m) aB:=by
   refine ⟨?_,rfl,by show (eA ids m).n<=_;omega,ajG _,Int.natCast_nonneg _,rfl,rfl⟩;show (eA ids m).n=(rf ((eA ids m).l.take (eA ids m).n) (limF (eA ids m).n)).length;rw [sJ,hfl]
  obtain ⟨j1,j2⟩:=qW Nq g0;have j1:NU (pB ids m) (eB ids m):=j1;have j2:WU (pB ids m) (eB ids m)=false:=j2;obtain ⟨bn,bz,-,b0,b1,bk,bo⟩:=j1;have hj:¬ (eB ids m).i<(pB ids m).z:=ajL j2;have eo:(eB ids m).o=(kX (bQ ids) m.toNat).map (fun x=>x.2.1):=by
   rw [bo,ajP (by omega)];show List.map _ (rf ((eA ids m).l.take (eA ids m).n) (limF (eA ids m).n))=_;rw [hs]
  have way:=of_f ids m;rw [eo] at way;refine T.aiU way ⟨?_,aH h0,?_,?_,aH g0,?_,trivial⟩
  ·unfold cO;rw [BY (show ¬ m<1 by omega),BY (show ¬ (ids.length:Int)<=m by omega)];rfl
  ·unfold sfB;rw [c9 n,c9 (show 0<(eA ids m).n by omega),c9 (show (eA ids m).n<=1000000 by omega),hsm];rfl
  ·rw [c9 (show (0:Int)<=m by omega),c9 (show m<=1000000 by omega)];rfl
  ·rw [<- eo];exact c9 bk
def ofS:Eng.Spec
 | [.orow t [.int .i64] ids,.s (.int .i64 m)]=>if t=3 then .ite none (decide (List.length ids<=1000000)) (.ret (.orow 3 [.int .i64] (ofV ids m))) .fail else .fail
 | [.nilSl,.s (.int .i64 m)]=>.ite none (!decide (m<1)) (.ret (.orow 3 [.int .i64] [])) .fail
 | _=>.fail
theorem of_nil {m:Int} (h:¬ m<1):(ofX [.nilSl,iv m]).eval=some (rI []):=by
 rw [<- T.aiW (t:=ofX _)];refine T.aiU (of_n m) ⟨BY h,?_,rfl,rfl,rfl,trivial⟩;rw [BY h,c9 (show ((0:Nat):Int)<=m by omega)];rfl
theorem Zo:aj Tryz.prog 105 ofS:=Y7.aiY fun args v h=>by
 unfold ofS at h;split at h
 ·rename_i t ids m;split at h
  ·rename_i ht;subst ht;obtain ⟨hb,h2⟩:=gy h;obtain rfl:=AI h2;exact of_run (IS hb) m
  ·cases h
 ·rename_i m;obtain ⟨hb,h2⟩:=gy h;obtain rfl:=AI h2;exact of_nil (m:=m) (by simpa using hb)
 ·cases h
end Go.Proofs.YtefkegpbpaoadaaGreatDoor.Sub
end
