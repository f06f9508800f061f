import Derived.Shelf.Strings.Split
import Derived.Lib.SplitLaws
import Derived.Test.YtncmdfdppmfeeaaGreatDoorHI
namespace Go.Proofs.YtncmdfdppmfeeaaGreatDoor.Rep
open Go.Eng Go.RowKit Go.Proofs.YtncmdfdppmfeeaaGreatDoor.Txt
set_option linter.unusedVariables false
set_option linter.unusedSimpArgs false
set_option maxRecDepth 100000
def Bb:List (List UInt8)->List UInt8->List UInt8
 | [],_=>[]
 | [x],_=>x
 | x::y::r,s=>x++(s++Bb (y::r) s)
theorem oT:∀ (xs:List (List UInt8)) (s:List UInt8),Lib.join xs s=Bb xs s
 | [],s=>rfl
 | [x],s=>Lib.join_one x s
 | x::y::r,s=>by
  show _=x++(s++Bb (y::r) s)
  rw [<- oT (y::r) s,Lib.join_cons,Lib.join_cons]
  simp [Lib.joinTail]
def joV (l:List ByteArray) (s:ByteArray):ByteArray:=byA (Bb (l.map fun x=>x.data.toList) s.data.toList)
def FJ:Eng.Spec
 | [.orow t [.str] l,.s (.str s)]=>if t=9 then .ite none (decide (List.length l<=100000)&&decide ((Bb (List.map (fun x:ByteArray=>x.data.toList) l) s.data.toList).length<=140737488355328)) (.ret (.s (.str (joV l s)))) .fail else .fail
 | _=>.fail
theorem mL:∀ (l:List (Row [.str])) (j:Nat) (x:ByteArray),l[j]?=some x->(aD [.str] l)[j]?=some (.string x)
 | [],j,x,h=>by simp at h
 | a::r,0,x,h=>by
  rw [bC]
  have h:some a=some x:=h
  obtain rfl:=Option.some.inj h
  rfl
 | a::r,j+1,x,h=>by
  rw [bC]
  exact mL r j x (by simpa using h)
theorem wB:SpecOk Tryz.prog 114 FJ:=by
 refine ⟨⟨_,Tryz.func114,by kernel_rfl,by kernel_rfl⟩,fun args v xs w hG hrow hv hrv hh => ?_⟩
 unfold FJ at hv
 split at hv
 ·rename_i t l s
  split at hv
  ·rename_i ht
   subst ht
   obtain ⟨hb,hv⟩:=iE hv
   rw [Bool.and_eq_true,decide_eq_true_eq,decide_eq_true_eq] at hb
   obtain ⟨h1,h2⟩:=hb
   obtain rfl:=Option.some.inj hv
   obtain ⟨x,rfl,hx⟩:∃ x,xs=[x,.string s]/\iH 0 w (.orow 9 [.str] l) x:=by
    match xs,hh with
    | [],hh=>exact hh.elim
    | [x],hh=>exact hh.2.elim
    | [x,y],hh=>exact ⟨x,by rw [show y=.string s from (fT (v:=.s (.str s)) rfl).1 hh.2.1],hh.1⟩
    | _::_::_::_,hh=>exact hh.2.2.elim
   obtain ⟨at_,cap,rfl,⟨hc,hc0⟩,hr⟩:=hx
   have key:Calls Tryz.prog 114 #[.slice at_ l.length cap,.string s] w fun e w'=>e=.returned (.string (joV l s))/\Below w.heap.size w w':=by
    cases l with
    | nil =>
     refine (Any.strings_Join_none Tryz.lays156 Tryz.Builder_Extra_156 at_ cap s w).mono ?_
     rintro e w' ⟨rfl,rfl⟩
     exact ⟨rfl,Below.refl _ _⟩
    | cons a r =>
     obtain ⟨b0,hb0,hcell⟩:=hr 0 _ (mL (a::r) 0 a rfl)
     obtain ⟨bk,o,sp⟩:=b0
     have hlt:=Co hcell
     rw [cY] at hlt
     have hsp:sp=none:=by
      cases sp with
      | none=>rfl
      | some q =>
       exfalso
       have e0:(Addr.mk bk o (some q)).add 0=⟨bk,o,some q⟩:=by unfold Addr.add;simp
       rw [e0] at hcell
       unfold World.cell? at hcell
       split at hcell
       ·simp at hcell
       ·cases hcell
     subst hsp
     subst hb0
     have cj:=Any.strings_Join Tryz.lays156 Tryz.Builder_Extra_156 bk o cap (a::r) s w (fun j x hj=>by
      obtain ⟨b1,hb1,hc1⟩:=hr j _ (mL (a::r) j x hj)
      cases hb1
      rw [bG] at hc1;exact hc1) hlt (Nat.le_trans h1 (by decide)) hc (by rw [oT];exact h2)
     refine cj.mono ?_
     rintro e w' ⟨rfl,hw⟩
     refine ⟨?_,hw⟩
     rw [oT];rfl
   refine key.mono ?_
   rintro e w' ⟨rfl,hw⟩
   exact ⟨_,rfl,(cB (v:=.s (.str (joV l s))) rfl).2 rfl,hw⟩
  ·cases hv
 ·cases hv
theorem mixed:Tryz.prog.follows .mixedOrders=true:=by kernel_rfl
theorem eA:EOk Tryz.prog [Vs]:=⟨⟨by kernel_rfl,by kernel_rfl⟩,trivial⟩
noncomputable def R0:Cfg:=⟨Tryz.prog,lookG [(9,.val i6),(145,.val yB),(114,.val FJ)],[Vs],0⟩
theorem xV:R0.Ok:=Cfg.ok ⟨cK,fE,wB,trivial⟩ eA
noncomputable def jnX:Eng.Spec:=aC R0 (rounds R0 9 1) 110
theorem SM:SpecOk Tryz.prog 110 jnX:=bB xV mixed 9 1 Tryz.func110 (by kernel_rfl) (by kernel_rfl)
noncomputable def R1:Cfg:=⟨Tryz.prog,lookG [(110,.val jnX)],[Vs],0⟩
theorem Fp:R1.Ok:=Cfg.ok ⟨SM,trivial⟩ eA
noncomputable def lnE:Eng.Obj:=ax R1 (rounds R1 4 1) 73
theorem QD:ObjOk Tryz.prog 73 lnE:=aG Fp mixed 4 1 Tryz.func73 (by kernel_rfl) (by kernel_rfl)
noncomputable def enE:Eng.Obj:=ax R1 (rounds R1 4 1) 75
theorem Si:ObjOk Tryz.prog 75 enE:=aG Fp mixed 4 1 Tryz.func75 (by kernel_rfl) (by kernel_rfl)
end Go.Proofs.YtncmdfdppmfeeaaGreatDoor.Rep
namespace Go.Proofs.YtncmdfdppmfeeaaGreatDoor.Dsk
open Go.Eng Go.RowKit Go.Proofs.YtncmdfdppmfeeaaGreatDoor.Txt
set_option linter.unusedVariables false
set_option linter.unusedSimpArgs false
set_option maxRecDepth 100000
def tR (c:UInt8):List UInt8->List (List UInt8)
 | []=>[[]]
 | b::l=>if b=c then []::tR c l else match tR c l with
  | []=>[[b]]
  | x::r=>(b::x)::r
theorem rD {c:UInt8}:∀ {l:List UInt8},c ∉ l->tR c l=[l]
 | [],_=>rfl
 | b::l,h=>by
  have h1:¬ b=c:=fun e=>h (by rw [e];simp)
  have ih:=rD (l:=l) fun q=>h (List.mem_cons_of_mem _ q)
  unfold tR
  rw [if_neg h1,ih]
theorem vG {c:UInt8}:∀ {a:List UInt8} {b:List UInt8},c ∉ a->tR c (a++c::b)=a::tR c b
 | [],b,_=>by
  show tR c (c::b)=_
  unfold tR
  rw [if_pos rfl];
  cases b<;>rfl
 | x::a,b,h=>by
  have h1:¬ x=c:=fun e=>h (by rw [e];simp)
  have ih:=vG (a:=a) (b:=b) fun q=>h (List.mem_cons_of_mem _ q)
  show tR c (x::(a++c::b))=_
  rw [tR,if_neg h1,ih]
theorem jF {c:UInt8}:∀ {a:List UInt8} {b:List UInt8},c ∉ a->Lib.indexByte (a++c::b) c=(a.length:Nat)
 | [],b,_=>by
  show Lib.indexByte (c::b) c=_
  unfold Lib.indexByte
  simp
 | x::a,b,h=>by
  have h1:¬ x=c:=fun e=>h (by rw [e];simp)
  have ih:=jF (a:=a) (b:=b) fun q=>h (List.mem_cons_of_mem _ q)
  show Lib.indexByte (x::(a++c::b)) c=_
  rw [Lib.indexByte,if_neg (by simpa using h1),ih,if_neg (by simp)]
  rw [List.length_cons];omega
theorem C5 {c:UInt8}:∀ {a:List UInt8} {b:List UInt8},c ∉ a->Lib.count (a++c::b) [c]=1+Lib.count b [c]:=by
 intro a b h
 rw [Lib.count_one,Lib.count_one,List.count_append,List.count_cons_self,List.count_eq_zero_of_not_mem h]
 omega
theorem zz (c:UInt8):∀ (n:Nat) (l:List UInt8),l.length<=n->Lib.splitK [c] 0 (Lib.count l [c]) l=tR c l:=by
 intro n
 induction n with
 | zero =>
  intro l h
  obtain rfl:=List.length_eq_zero_iff.1 (Nat.le_zero.1 h)
  rfl
 | succ n ih =>
  intro l h
  by_cases q:c∈l
  ·obtain ⟨a,b,rfl,ha⟩:=List.eq_append_cons_of_mem q
   rw [C5 ha,Nat.add_comm,vG ha]
   have hi:Lib.index (a++c::b) [c]=(a.length:Nat):=by rw [Lib.index_one,jF ha]
   rw [Lib.splitK,hi,if_neg (by simp)]
   have hb:b.length<=n:=by
    rw [List.length_append,List.length_cons] at h
    omega
   have e1:(a++c::b).take (((a.length:Nat):Int).toNat+0)=a:=by simp
   have e2:(a++c::b).drop (((a.length:Nat):Int).toNat+[c].length)=b:=by
    rw [Int.toNat_natCast,show a.length+[c].length=(a++[c]).length by simp,show a++c::b=(a++[c])++b by simp,List.drop_left]
   rw [e1,e2,ih b hb]
  ·have hc:Lib.count l [c]=0:=by rw [Lib.count_one,List.count_eq_zero_of_not_mem q]
   rw [hc,rD q];rfl
def L8 (c:UInt8) (s:ByteArray):List V:=(tR c s.data.toList).map fun x=>.s (.str (byA x))
def UU:Eng.Spec
 | [.s (.str s),.s (.str sep)]=>match sep.data.toList with
  | [c]=>.ite none (decide (s.size<4294967281)) (.ret (.row 9 (L8 c s) 0 (L8 c s).length (L8 c s).length)) .fail
  | _=>.fail
 | _=>.fail
theorem rM (c:UInt8) (s:ByteArray):(Lib.splitB ⟨#[c]⟩ 0 (Lib.countB s ⟨#[c]⟩) s).map Value.string=(tR c s.data.toList).map fun x=>Value.string (byA x):=by
 have h:=Lib.splitB_data ⟨#[c]⟩ 0 (Lib.countB s ⟨#[c]⟩) s
 have e:Lib.countB s ⟨#[c]⟩=Lib.count s.data.toList [c]:=rfl
 rw [e] at h ⊢
 have h2:(Lib.splitB ⟨#[c]⟩ 0 (Lib.count s.data.toList [c]) s).map (·.data.toList)=tR c s.data.toList:=h.trans (zz c _ _ (Nat.le_refl _))
 rw [<- h2,List.map_map]
 exact List.map_congr_left fun x _=>by
  show Value.string x=Value.string (byA x.data.toList)
  unfold byA
  rw [Array.toArray_toList]
theorem Ds (c:UInt8) (s:ByteArray):aB nu0 (L8 c s)=(tR c s.data.toList).map fun x=>Value.string (byA x):=by
 rw [aq]
 unfold L8
 rw [List.map_map];rfl
theorem CG:SpecOk Tryz.prog 12 UU:=by
 refine ⟨⟨_,Tryz.func12,by kernel_rfl,by kernel_rfl⟩,fun args v xs w hG hrow hv hrv hh => ?_⟩
 unfold UU at hv
 split at hv
 ·rename_i s sep
  split at hv
  ·rename_i c hc
   obtain ⟨hb,hv⟩:=iE hv
   obtain rfl:=Option.some.inj hv
   have hs:=of_decide_eq_true hb
   have hsep:sep=⟨#[c]⟩:=by
    obtain ⟨⟨l⟩⟩:=sep
    have:l=[c]:=hc
    rw [this]
   obtain rfl:xs=[.string s,.string sep]:=fg (l:=[.s (.str s),.s (.str sep)]) rfl hh
   obtain ⟨m,hm⟩:=hG.len
   rw [hsep]
   refine (Any.strings_Split Tryz.lays146 (by kernel_rfl) s ⟨#[c]⟩ m w hs hm (Nat.le_refl 1)).mono ?_
   rintro e w' ⟨rfl,rfl⟩
   have hl:(L8 c s).length=Lib.countB s ⟨#[c]⟩+1:=by
    have h1:=Lib.splitB_all ⟨#[c]⟩ (Nat.le_refl 1) 0 _ s rfl
    have h2:=congrArg List.length (rM c s)
    rw [List.length_map,List.length_map] at h2
    unfold L8
    rw [List.length_map];omega
   refine ⟨_,rfl,⟨w.heap.size,Nat.le_refl _,by rw [hl],?_⟩,Below.alloc (Below.refl _ _) (by omega) _⟩
   rw [Ds,<- rM]
   show (w.heap.push _)[w.heap.size]?=_
   rw [Array.getElem?_push_size];rfl
  ·cases hv
 ·cases hv
def W5:Eng.Spec
 | [.s (.str s),.s (.str sep)]=>match sep.data.toList with
  | [c]=>.ret (Eng.iv (s.data.toList.count c:Nat))
  | _=>.fail
 | _=>.fail
theorem Ln:SpecOk Tryz.prog 21 W5:=by
 refine ⟨⟨_,Tryz.func21,by kernel_rfl,by kernel_rfl⟩,fun args v xs w hG hrow hv hrv hh => ?_⟩
 unfold W5 at hv
 split at hv
 ·rename_i s sep
  split at hv
  ·rename_i c hc
   obtain rfl:=Option.some.inj hv
   have hsep:sep=⟨#[c]⟩:=by
    obtain ⟨⟨l⟩⟩:=sep
    have:l=[c]:=hc
    rw [this]
   obtain rfl:xs=[.string s,.string sep]:=fg (l:=[.s (.str s),.s (.str sep)]) rfl hh
   rw [hsep]
   refine (Any.strings_Count_one Tryz.lays138 s c w).mono ?_
   rintro e w' ⟨rfl,rfl⟩
   exact ⟨_,rfl,rfl,Below.refl _ _⟩
  ·cases hv
 ·cases hv
def XC:Eng.Obj:=fun args h=>match args,h with
 | [.ptr 0 0],[(0,.cells t [.nilPtr,.nilSl])]=>if t=TB then .ret (.s (.str ⟨#[]⟩),[]) else .fail
 | a,h=>Vo a h
theorem KM:ObjOk Tryz.prog 15 XC:=by
 refine ⟨⟨_,Tryz.func15,by kernel_rfl,by kernel_rfl⟩,fun args h v h' ν w hG hgs hok hb hr hv ho => ?_⟩
 unfold XC at hv
 split at hv
 ·rename_i t
  split at hv
  ·rename_i ht
   subst ht
   obtain ⟨rfl,rfl⟩:V.s (.str ⟨#[]⟩)=v/\([]:Eng.Heap)=h':=by
    have:=Option.some.inj hv
    exact ⟨congrArg Prod.fst this,congrArg Prod.snd this⟩
   obtain ⟨d0,d1,d2⟩:=hr.den 0 _ rfl
   have ea:(aB ν [.ptr 0 0]).toArray=#[.pointer (some ⟨(ν 0).core.blk,0,none⟩)]:=by simp [aB,V.den,d0]
   rw [ea]
   refine (Any.Builder_String_nil Tryz.lays169 Tryz.Builder_Extra_169 w.heap.size _ _ w d2).mono ?_
   rintro e w' ⟨rfl,hw⟩
   exact ⟨ν,rfl,fun _ _=>rfl,⟨fun i b e=>(by cases e),fun i j bi bj ne ei ej=>(by cases ei)⟩,fun i b e=>(by cases e),Prog.of_below hw⟩
  ·cases hv
 ·exact Cz.calls args h v h' ν w hG hgs hok hb hr hv ho
end Go.Proofs.YtncmdfdppmfeeaaGreatDoor.Dsk
namespace Go.Proofs.YtncmdfdppmfeeaaGreatDoor.Dsk
open Go.Eng Go.RowKit Mil Rin Go.Proofs.YtncmdfdppmfeeaaGreatDoor.Sys
set_option linter.unusedVariables false
set_option linter.unusedSimpArgs false
set_option maxRecDepth 100000
theorem EJ {k:Nat} (hk:k<=12):arD (k:Int) (s0 Conf.dflt)=aK k/\sU (k:Int) ⟨s0 Conf.dflt,0⟩:=by
 have h0:SI 90000 (s0 Conf.dflt):=VS (by kernel_rfl) (by kernel_rfl)
 have ok:sU (k:Int) ⟨s0 Conf.dflt,0⟩:=⟨h0,Int.le_refl 0,by show (0:Int)<=(k:Int);omega,by show (k:Int)<=1000;omega,by show ((0:Nat):Int)+((k:Int) - 0)<=90000;omega⟩
 obtain ⟨i,ind⟩:=RM ok
 have e:arD (k:Int) (s0 Conf.dflt)=aK ((k:Int)).toNat:=ind (fun a k=>a=aK k.toNat) WB.symm fun a k ha hp k0 kn _=>by
  subst hp
  rw [show (k+1).toNat=k.toNat+1 by omega]
  exact Bu (by omega) ha
 exact ⟨e,ok⟩
def arY:Eng.Obj:=fun args h=>match args with
 | [.ptr 0 0,.s (.int .i64 n)]=>opt (yy N0 h) fun s=>.ite none (decide (1<=n)&&decide (n<=12)&&decide (s=s0 Conf.dflt)) (.ret (Eng.iv 0,u4 (eU N3 (aK n.toNat)))) .fail
 | _=>.fail
theorem Qo:ObjOk Tryz.prog 69 arY:=RZ.of_eval fun args h r hv=>by
 unfold arY at hv
 split at hv
 ·rename_i n
  obtain ⟨s,hd,hv1⟩:=ab hv
  clear hv
  obtain ⟨hc,hv2⟩:=ak hv1
  clear hv1
  rw [Bool.and_eq_true,Bool.and_eq_true] at hc
  have n0:=of_decide_eq_true hc.1.1
  have n1:=of_decide_eq_true hc.1.2
  obtain rfl:=of_decide_eq_true hc.2
  obtain rfl:=Option.some.inj hv2
  obtain ⟨j,rfl⟩:∃ j:Nat,n=((j+1:Nat):Int):=⟨(n - 1).toNat,by omega⟩
  obtain ⟨e,ok⟩:=EJ (k:=j+1) (by omega)
  unfold arS
  simp only [hd]
  show (T.ite none (Dly.pB (sU ((j+1:Nat):Int) ⟨s0 Conf.dflt,0⟩)) _ _:T (V × Heap)).eval=_
  rw [Dly.rV ok]
  show (T.ite none (arD ((j+1:Nat):Int) (s0 Conf.dflt)).qu.isSome _ _:T (V × Heap)).eval=_
  rw [e];rfl
 ·cases hv
def w6 (s:List UInt8) (c:Conf.Cf) (e n:Int):Prop:=(Txt.Mm [Conf.cG Conf.dflt,.s (.str ⟨⟨s⟩⟩)]).eval=some (.tup [Conf.cG c,Eng.iv e,Eng.iv n])
def Du:List UInt8:=[109,105,110,58,32,120]
def DG:List UInt8:=[109,105,110,58,32,50]
def Fg:List UInt8:=[105,110,105,116,105,97,108,58,32,48]
theorem pk_0:w6 [] Conf.dflt 0 0:=(by kernel_rfl:(Txt.Mm [Conf.cG Conf.dflt,.s (.str ⟨⟨[]⟩⟩)]).eval=some (.tup [Conf.cG Conf.dflt,Eng.iv 0,Eng.iv 0]))
theorem pk_1:w6 Du Conf.dflt 4 1:=(by kernel_rfl:(Txt.Mm [Conf.cG Conf.dflt,.s (.str ⟨⟨Du⟩⟩)]).eval=some (.tup [Conf.cG Conf.dflt,Eng.iv 4,Eng.iv 1]))
theorem pk_2:w6 DG { Conf.dflt with min:=2 } 0 0:=(by kernel_rfl:(Txt.Mm [Conf.cG Conf.dflt,.s (.str ⟨⟨DG⟩⟩)]).eval=some (.tup [Conf.cG { Conf.dflt with min:=2 },Eng.iv 0,Eng.iv 0]))
theorem pk_3:w6 Fg { Conf.dflt with initial:=0 } 0 0:=(by kernel_rfl:(Txt.Mm [Conf.cG Conf.dflt,.s (.str ⟨⟨Fg⟩⟩)]).eval=some (.tup [Conf.cG { Conf.dflt with initial:=0 },Eng.iv 0,Eng.iv 0]))
def Vt:Eng.Spec
 | [x,.s (.str s)]=>Conf.ga x fun c=>.ite none (decide (c=Conf.dflt)&&decide (s.data.toList=[])) (.ret (.tup [Conf.cG Conf.dflt,Eng.iv 0,Eng.iv 0]))
  (.ite none (decide (c=Conf.dflt)&&decide (s.data.toList=Du)) (.ret (.tup [Conf.cG Conf.dflt,Eng.iv 4,Eng.iv 1]))
  (.ite none (decide (c=Conf.dflt)&&decide (s.data.toList=DG)) (.ret (.tup [Conf.cG { Conf.dflt with min:=2 },Eng.iv 0,Eng.iv 0]))
  (.ite none (decide (c=Conf.dflt)&&decide (s.data.toList=Fg)) (.ret (.tup [Conf.cG { Conf.dflt with initial:=0 },Eng.iv 0,Eng.iv 0])) .fail)))
 | _=>.fail
theorem Ci:SpecOk Tryz.prog 7 Vt:=Txt.I4.of_eval fun args v hv=>by
 unfold Vt at hv
 split at hv
 ·rename_i x s
  obtain ⟨c,rfl,hv⟩:=Conf.bM hv
  have key:∀ (y:List UInt8) (d:Conf.Cf) (e n:Int),w6 y d e n->(decide (c=Conf.dflt)&&decide (s.data.toList=y))=true->(Txt.Mm [Conf.cG c,.s (.str s)]).eval=some (.tup [Conf.cG d,Eng.iv e,Eng.iv n]):=fun y d e n h q=>by
   rw [Bool.and_eq_true] at q
   rw [of_decide_eq_true q.1]
   unfold w6 at h
   rw [<- of_decide_eq_true q.2] at h
   exact h
  cases q:(decide (c=Conf.dflt)&&decide (s.data.toList=[])) with
  | true=>obtain rfl:=Option.some.inj (Dec.iz hv q);exact key _ _ _ _ pk_0 q
  | false =>
   have hv:=Dec.iB hv q
   clear q
   cases q:(decide (c=Conf.dflt)&&decide (s.data.toList=Du)) with
   | true=>obtain rfl:=Option.some.inj (Dec.iz hv q);exact key _ _ _ _ pk_1 q
   | false =>
    have hv:=Dec.iB hv q
    clear q
    cases q:(decide (c=Conf.dflt)&&decide (s.data.toList=DG)) with
    | true=>obtain rfl:=Option.some.inj (Dec.iz hv q);exact key _ _ _ _ pk_2 q
    | false =>
     have hv:=Dec.iB hv q
     clear q
     cases q:(decide (c=Conf.dflt)&&decide (s.data.toList=Fg)) with
     | true=>obtain rfl:=Option.some.inj (Dec.iz hv q);exact key _ _ _ _ pk_3 q
     | false=>cases (Dec.iB hv q:(T.fail:T V).eval=some v)
 ·cases hv
end Go.Proofs.YtncmdfdppmfeeaaGreatDoor.Dsk
namespace Go.Proofs.YtncmdfdppmfeeaaGreatDoor.Dsk
open Go.Eng Go.RowKit
set_option linter.unusedVariables false
set_option linter.unusedSimpArgs false
set_option maxRecDepth 100000
theorem dI:Tryz.prog.follows .mixedOrders=true:=Checked.mixed Tryz.checked
theorem PD:EOk Tryz.prog [AM]:=⟨⟨by kernel_rfl,by kernel_rfl⟩,trivial⟩
noncomputable def D0:Cfg:=⟨Tryz.prog,lookG [],[],0⟩
theorem nC:D0.Ok:=Cfg.ok trivial trivial
noncomputable def hsX:Eng.Spec:=aC D0 aa 52
theorem TY:SpecOk Tryz.prog 52 hsX:=ae nC dI Tryz.func52 (by kernel_rfl) (by kernel_rfl)
noncomputable def Q0:Cfg:=⟨Tryz.prog,lookG [(52,.val hsX)],[],0⟩
theorem LL:Q0.Ok:=Cfg.ok ⟨TY,trivial⟩ trivial
noncomputable def hsY:Eng.Spec:=aC Q0 aa 22
theorem Tb:SpecOk Tryz.prog 22 hsY:=ae LL dI Tryz.func22 (by kernel_rfl) (by kernel_rfl)
noncomputable def Q1:Cfg:=⟨Tryz.prog,lookG [(21,.val W5),(22,.val hsY)],[],0⟩
theorem kZ:Q1.Ok:=Cfg.ok ⟨Ln,Tb,trivial⟩ trivial
noncomputable def Zw:Eng.Spec:=aC Q1 aa 10
theorem L3:SpecOk Tryz.prog 10 Zw:=ae kZ dI Tryz.func10 (by kernel_rfl) (by kernel_rfl)
noncomputable def Y5:Eng.Spec:=aC D0 (rounds D0 6 1) 65
theorem JB:SpecOk Tryz.prog 65 Y5:=bB nC dI 6 1 Tryz.func65 (by kernel_rfl) (by kernel_rfl)
noncomputable def Zc:Eng.Spec:=aC D0 aa 64
theorem IU:SpecOk Tryz.prog 64 Zc:=ae nC dI Tryz.func64 (by kernel_rfl) (by kernel_rfl)
noncomputable def Q2:Cfg:=⟨Tryz.prog,lookG [(12,.val UU),(64,.val (Eng.Spec.plain Zc)),(65,.val (Eng.Spec.plain Y5))],[],0⟩
theorem tL:Q2.Ok:=Cfg.ok ⟨CG,IU.plain,JB.plain,trivial⟩ trivial
noncomputable def rdX:Eng.Spec:=aC Q2 aa 33
theorem OO:SpecOk Tryz.prog 33 rdX:=ae tL dI Tryz.func33 (by kernel_rfl) (by kernel_rfl)
noncomputable def Q3:Cfg:=⟨Tryz.prog,lookG [(9,.val Txt.i6),(114,.val Rep.FJ)],[],0⟩
theorem Qy:Q3.Ok:=Cfg.ok ⟨Txt.cK,Rep.wB,trivial⟩ trivial
noncomputable def ZP:Eng.Spec:=aC Q3 (rounds Q3 9 1) 77
theorem Ma:SpecOk Tryz.prog 77 ZP:=bB Qy dI 9 1 Tryz.func77 (by kernel_rfl) (by kernel_rfl)
noncomputable def aak:Eng.Spec:=aC Q3 (rounds Q3 9 1) 78
theorem JC:SpecOk Tryz.prog 78 aak:=bB Qy dI 9 1 Tryz.func78 (by kernel_rfl) (by kernel_rfl)
noncomputable def Q4:Cfg:=⟨Tryz.prog,lookG [(73,.obj (Eng.Obj.plain Rep.lnE)),(74,.obj Sys.seS),(75,.obj (Eng.Obj.plain Rep.enE)),(76,.obj Sys.Yh),(77,.val (Eng.Spec.plain ZP)),(78,.val (Eng.Spec.plain aak)),(79,.obj Sys.laS)],[],0⟩
theorem XL:Q4.Ok:=Cfg.ok ⟨Rep.QD.plain,Sys.RA,Rep.Si.plain,Sys.L0,Ma.plain,JC.plain,Sys.QF,trivial⟩ trivial
noncomputable def lkX:Eng.Obj:=ax Q4 aa 35
theorem Qb:ObjOk Tryz.prog 35 lkX:=af XL dI Tryz.func35 (by kernel_rfl) (by kernel_rfl)
noncomputable def aaf:Eng.Obj:=ax Dec.Y3 aa 108
theorem KX:ObjOk Tryz.prog 108 aaf:=af Dec.JH dI Tryz.func108 (by kernel_rfl) (by kernel_rfl)
noncomputable def Q9:Cfg:=⟨Tryz.prog,lookG [(7,.val Vt),(108,.obj (Eng.Obj.plainR aaf)),(109,.obj (Eng.Obj.plainR Que.HB)),(103,.obj (Eng.Obj.plainR Sys.snT))],[],0⟩
theorem VV:Q9.Ok:=Cfg.ok ⟨Ci,KX.plainR,Que.za.plainR,Sys.yO.plainR,trivial⟩ trivial
noncomputable def aal:Eng.Obj:=ax Q9 aa 72
theorem Lh:ObjOk Tryz.prog 72 aal:=af VV dI Tryz.func72 (by kernel_rfl) (by kernel_rfl)
noncomputable def Q5:Cfg:=⟨Tryz.prog,lookG [(66,.obj Sys.Dp),(67,.val Evt.kW),(68,.obj (Eng.Obj.plainR Sys.paT)),(69,.obj arY),(70,.obj (Eng.Obj.plainR Sys.fiT)),(72,.obj (Eng.Obj.plainR aal))],[],0⟩
theorem YZ:Q5.Ok:=Cfg.ok ⟨Sys.gE,Evt.db,Sys.Pc.plainR,Qo,Sys.To.plainR,Lh.plainR,trivial⟩ trivial
noncomputable def doD:Eng.Obj:=ax Q5 aa 34
theorem QQ:ObjOk Tryz.prog 34 doD:=af YZ dI Tryz.func34 (by kernel_rfl) (by kernel_rfl)
noncomputable def Q6:Cfg:=⟨Tryz.prog,lookG [(33,.val (Eng.Spec.plain rdX)),(34,.obj (Eng.Obj.plainR doD)),(35,.obj (Eng.Obj.plainR lkX)),(9,.val Txt.i6)],[],0⟩
theorem XB:Q6.Ok:=Cfg.ok ⟨OO.plain,QQ.plainR,Qb.plainR,Txt.cK,trivial⟩ trivial
noncomputable def ZR:Eng.Obj:=ax Q6 aa 14
theorem M7:ObjOk Tryz.prog 14 ZR:=af XB dI Tryz.func14 (by kernel_rfl) (by kernel_rfl)
noncomputable def Q7:Cfg:=⟨Tryz.prog,lookG [(7,.val Vt),(8,.val Conf.Jp),(9,.val Txt.i6),(10,.val (Eng.Spec.plain Zw)),(11,.obj (Eng.Obj.plainR Sys.neS)),(12,.val UU),(14,.obj (Eng.Obj.plainR ZR)),(13,.obj (Eng.Obj.plainR Txt.wrR)),(15,.obj XC)],[AM],0⟩
theorem V9:Q7.Ok:=Cfg.ok ⟨Ci,Conf.ID,Txt.cK,L3.plain,Sys.Pd.plainR,CG,M7.plainR,Txt.Qm.plainR,KM,trivial⟩ PD
noncomputable def lI:Eng.Spec:=aC Q7 (rounds Q7 13 1) 6
theorem NF:SpecOk Tryz.prog 6 lI:=bB V9 dI 13 1 Tryz.func6 (by kernel_rfl) (by kernel_rfl)
end Go.Proofs.YtncmdfdppmfeeaaGreatDoor.Dsk
namespace Go.Proofs.YtncmdfdppmfeeaaGreatDoor.Dsk
open Go.Eng Go.RowKit Go.Proofs.YtncmdfdppmfeeaaGreatDoor.Txt
set_option linter.unusedVariables false
set_option linter.unusedSimpArgs false
set_option maxRecDepth 100000
def dO (a s o:List UInt8):Prop:=(lI [.s (.str ⟨⟨a⟩⟩),.s (.str ⟨⟨s⟩⟩)]).eval=some (.s (.str ⟨⟨o⟩⟩))
def Wa:List UInt8:=[115,101,101,10]
def Wq:List UInt8:=[10,115,101,101]
def cg:List UInt8:=[48,32,49,32,49,32,49,32,48,32,48,32,112,114,111,120,121,10,101,114,114,111,114,10,48,32,49,32,49,32,49,32,48,32,48,32,112,114,111,120,121,10]
def U8:List (List UInt8):=[[116,105,99,107],[116,105,99,107,32,120],[116,105,99,107,32,49,50,51,52,53],[116,105,99,107,32,49,32,50],[97,114,114,105,118,101],[102,105,110,105,115,104,32,45,49],[99,114,97,115,104],[108,111,115,101,32,120],[115,101,116],[115,101,116,32,109,105,110],[115,101,116,32,109,105,110,32,49,32,50],[115,101,101,32,49],[112,111,100,115,32,120],[101,110,100,115,32,48],[108,97,115,116,32,49],[32,115,101,101],[84,105,99,107,32,49],[116,105,99,107,32,32,49]]
def fH (w:List UInt8):List UInt8:=Wa++(w++Wq)
def UF:List UInt8:=[]
def Vi:List UInt8:=[115,101,101,10,97,114,114,105,118,101,32,51,10,116,105,99,107,32,49,10,115,101,101,10,112,111,100,115,10,101,110,100,115,10,120,10,102,105,110,105,115,104,32,57,10,115,101,116,32,109,105,110,32,120,10,115,101,116,32,109,105,110,32,50]
def YH:List UInt8:=[48,32,49,32,49,32,49,32,48,32,48,32,112,114,111,120,121,10,48,10,48,10,49,32,49,32,49,32,49,32,48,32,51,32,112,114,111,120,121,10,48,58,50,58,51,10,48,32,51,32,48,32,48,32,48,32,48,10,101,114,114,111,114,10,55,10,52,10,48,10]
def Ve:List UInt8:=[109,105,110,58,32,120]
def UZ:List UInt8:=[115,101,101]
def XV:List UInt8:=[101,114,114,111,114,32,52,32,49,10]
def UW:List UInt8:=[]
def U0:List UInt8:=[]
def XZ:List UInt8:=[]
end Go.Proofs.YtncmdfdppmfeeaaGreatDoor.Dsk
