import Derived.Shelf.Strings.Split
import Derived.Lib.SplitLaws
import Derived.Test.YtncmdfdppmfeeaaGreatDoorHI
namespace Go.Proofs.YtncmdfdppmfeeaaGreatDoor.Rep
open Go.Eng Go.RowKit Go.Proofs.YtncmdfdppmfeeaaGreatDoor.Txt
set_option linter.unusedVariables false
set_option linter.unusedSimpArgs false
set_option maxRecDepth 100000
def Bu:List (List UInt8)->List UInt8->List UInt8
 | [],_=>[]
 | [x],_=>x
 | x::y::r,s=>x++(s++Bu (y::r) s)
theorem rj:∀ (xs:List (List UInt8)) (s:List UInt8),Lib.join xs s=Bu xs s
 | [],s=>rfl
 | [x],s=>Lib.join_one x s
 | x::y::r,s=>by
  show _=x++(s++Bu (y::r) s)
  rw [<- rj (y::r) s,Lib.join_cons,Lib.join_cons]
  simp [Lib.joinTail]
def joV (l:List ByteArray) (s:ByteArray):ByteArray:=byA (Bu (l.map fun x=>x.data.toList) s.data.toList)
def F8:Eng.Spec
 | [.orow t [.str] l,.s (.str s)]=>if t=9 then .ite none (decide (List.length l<=100000)&&decide ((Bu (List.map (fun x:ByteArray=>x.data.toList) l) s.data.toList).length<=140737488355328)) (.ret (.s (.str (joV l s)))) .fail else .fail
 | _=>.fail
theorem ma:∀ (l:List (Row [.str])) (j:Nat) (x:ByteArray),l[j]?=some x->(aD [.str] l)[j]?=some (.string x)
 | [],j,x,h=>by simp at h
 | a::r,0,x,h=>by
  rw [bu]
  have h:some a=some x:=h
  obtain rfl:=Option.some.inj h
  rfl
 | a::r,j+1,x,h=>by
  rw [bu]
  exact ma r j x (by simpa using h)
theorem wY:SpecOk Tryz.prog 114 F8:=by
 refine ⟨⟨_,Tryz.func114,by kernel_rfl,by kernel_rfl⟩,fun args v xs w hG hrow hv hrv hh => ?_⟩
 unfold F8 at hv
 split at hv
 ·rename_i t l s
  split at hv
  ·rename_i ht
   subst ht
   obtain ⟨hb,hv⟩:=gA hv
   rw [Bool.and_eq_true,decide_eq_true_eq,decide_eq_true_eq] at hb
   obtain ⟨h1,h2⟩:=hb
   obtain rfl:=Option.some.inj hv
   obtain ⟨x,rfl,hx⟩:∃ x,xs=[x,.string s]/\iU 0 w (.orow 9 [.str] l) x:=by
    match xs,hh with
    | [],hh=>exact hh.elim
    | [x],hh=>exact hh.2.elim
    | [x,y],hh=>exact ⟨x,by rw [show y=.string s from (fY (v:=.s (.str s)) rfl).1 hh.2.1],hh.1⟩
    | _::_::_::_,hh=>exact hh.2.2.elim
   obtain ⟨at_,cap,rfl,⟨hc,hc0⟩,hr⟩:=hx
   have key:Calls Tryz.prog 114 #[.slice at_ l.length cap,.string s] w fun e w'=>e=.returned (.string (joV l s))/\Below w.heap.size w w':=by
    cases l with
    | nil =>
     refine (Any.strings_Join_none Tryz.lays156 Tryz.Builder_Extra_156 at_ cap s w).mono ?_
     rintro e w' ⟨rfl,rfl⟩
     exact ⟨rfl,Below.refl _ _⟩
    | cons a r =>
     obtain ⟨b0,hb0,hcell⟩:=hr 0 _ (ma (a::r) 0 a rfl)
     obtain ⟨bk,o,sp⟩:=b0
     have hlt:=Al hcell
     rw [cX] at hlt
     have hsp:sp=none:=by
      cases sp with
      | none=>rfl
      | some q =>
       exfalso
       have e0:(Addr.mk bk o (some q)).add 0=⟨bk,o,some q⟩:=by unfold Addr.add;simp
       rw [e0] at hcell
       unfold World.cell? at hcell
       split at hcell
       ·simp at hcell
       ·cases hcell
     subst hsp
     subst hb0
     have cj:=Any.strings_Join Tryz.lays156 Tryz.Builder_Extra_156 bk o cap (a::r) s w (fun j x hj=>by
      obtain ⟨b1,hb1,hc1⟩:=hr j _ (ma (a::r) j x hj)
      cases hb1
      rw [bJ] at hc1;exact hc1) hlt (Nat.le_trans h1 (by decide)) hc (by rw [rj];exact h2)
     refine cj.mono ?_
     rintro e w' ⟨rfl,hw⟩
     refine ⟨?_,hw⟩
     rw [rj];rfl
   refine key.mono ?_
   rintro e w' ⟨rfl,hw⟩
   exact ⟨_,rfl,(cC (v:=.s (.str (joV l s))) rfl).2 rfl,hw⟩
  ·cases hv
 ·cases hv
theorem mixed:Tryz.prog.follows .mixedOrders=true:=by kernel_rfl
theorem eA:EOk Tryz.prog [VM]:=⟨⟨by kernel_rfl,by kernel_rfl⟩,trivial⟩
noncomputable def R0:Cfg:=⟨Tryz.prog,lookG [(9,.val iI),(145,.val zi),(114,.val F8)],[VM],0⟩
theorem yS:R0.Ok:=Cfg.ok ⟨cF,fD,wY,trivial⟩ eA
noncomputable def jnX:Eng.Spec:=aC R0 (rounds R0 9 1) 110
theorem U9:SpecOk Tryz.prog 110 jnX:=bC yS mixed 9 1 Tryz.func110 (by kernel_rfl) (by kernel_rfl)
noncomputable def R1:Cfg:=⟨Tryz.prog,lookG [(110,.val jnX)],[VM],0⟩
theorem Eu:R1.Ok:=Cfg.ok ⟨U9,trivial⟩ eA
noncomputable def lnE:Eng.Obj:=ay R1 (rounds R1 4 1) 73
theorem Tp:ObjOk Tryz.prog 73 lnE:=aH Eu mixed 4 1 Tryz.func73 (by kernel_rfl) (by kernel_rfl)
noncomputable def enE:Eng.Obj:=ay R1 (rounds R1 4 1) 75
theorem RF:ObjOk Tryz.prog 75 enE:=aH Eu mixed 4 1 Tryz.func75 (by kernel_rfl) (by kernel_rfl)
end Go.Proofs.YtncmdfdppmfeeaaGreatDoor.Rep
namespace Go.Proofs.YtncmdfdppmfeeaaGreatDoor.Dsk
open Go.Eng Go.RowKit Go.Proofs.YtncmdfdppmfeeaaGreatDoor.Txt
set_option linter.unusedVariables false
set_option linter.unusedSimpArgs false
set_option maxRecDepth 100000
def l7 (c:UInt8):List UInt8->List (List UInt8)
 | []=>[[]]
 | b::l=>if b=c then []::l7 c l else match l7 c l with
  | []=>[[b]]
  | x::r=>(b::x)::r
theorem sf {c:UInt8}:∀ {l:List UInt8},c ∉ l->l7 c l=[l]
 | [],_=>rfl
 | b::l,h=>by
  have h1:¬ b=c:=fun e=>h (by rw [e];simp)
  have ih:=sf (l:=l) fun q=>h (List.mem_cons_of_mem _ q)
  unfold l7
  rw [if_neg h1,ih]
theorem pv {c:UInt8}:∀ {a:List UInt8} {b:List UInt8},c ∉ a->l7 c (a++c::b)=a::l7 c b
 | [],b,_=>by
  show l7 c (c::b)=_
  unfold l7
  rw [if_pos rfl];
  cases b<;>rfl
 | x::a,b,h=>by
  have h1:¬ x=c:=fun e=>h (by rw [e];simp)
  have ih:=pv (a:=a) (b:=b) fun q=>h (List.mem_cons_of_mem _ q)
  show l7 c (x::(a++c::b))=_
  rw [l7,if_neg h1,ih]
theorem jB {c:UInt8}:∀ {a:List UInt8} {b:List UInt8},c ∉ a->Lib.indexByte (a++c::b) c=(a.length:Nat)
 | [],b,_=>by
  show Lib.indexByte (c::b) c=_
  unfold Lib.indexByte
  simp
 | x::a,b,h=>by
  have h1:¬ x=c:=fun e=>h (by rw [e];simp)
  have ih:=jB (a:=a) (b:=b) fun q=>h (List.mem_cons_of_mem _ q)
  show Lib.indexByte (x::(a++c::b)) c=_
  rw [Lib.indexByte,if_neg (by simpa using h1),ih,if_neg (by simp)]
  rw [List.length_cons];omega
theorem A6 {c:UInt8}:∀ {a:List UInt8} {b:List UInt8},c ∉ a->Lib.count (a++c::b) [c]=1+Lib.count b [c]:=by
 intro a b h
 rw [Lib.count_one,Lib.count_one,List.count_append,List.count_cons_self,List.count_eq_zero_of_not_mem h]
 omega
theorem Bd (c:UInt8):∀ (n:Nat) (l:List UInt8),l.length<=n->Lib.splitK [c] 0 (Lib.count l [c]) l=l7 c l:=by
 intro n
 induction n with
 | zero =>
  intro l h
  obtain rfl:=List.length_eq_zero_iff.1 (Nat.le_zero.1 h)
  rfl
 | succ n ih =>
  intro l h
  by_cases q:c∈l
  ·obtain ⟨a,b,rfl,ha⟩:=List.eq_append_cons_of_mem q
   rw [A6 ha,Nat.add_comm,pv ha]
   have hi:Lib.index (a++c::b) [c]=(a.length:Nat):=by rw [Lib.index_one,jB ha]
   rw [Lib.splitK,hi,if_neg (by simp)]
   have hb:b.length<=n:=by
    rw [List.length_append,List.length_cons] at h
    omega
   have e1:(a++c::b).take (((a.length:Nat):Int).toNat+0)=a:=by simp
   have e2:(a++c::b).drop (((a.length:Nat):Int).toNat+[c].length)=b:=by
    rw [Int.toNat_natCast,show a.length+[c].length=(a++[c]).length by simp,show a++c::b=(a++[c])++b by simp,List.drop_left]
   rw [e1,e2,ih b hb]
  ·have hc:Lib.count l [c]=0:=by rw [Lib.count_one,List.count_eq_zero_of_not_mem q]
   rw [hc,sf q];rfl
def MP (c:UInt8) (s:ByteArray):List V:=(l7 c s.data.toList).map fun x=>.s (.str (byA x))
def Wp:Eng.Spec
 | [.s (.str s),.s (.str sep)]=>match sep.data.toList with
  | [c]=>.ite none (decide (s.size<4294967281)) (.ret (.row 9 (MP c s) 0 (MP c s).length (MP c s).length)) .fail
  | _=>.fail
 | _=>.fail
theorem jJ (c:UInt8) (s:ByteArray):(Lib.splitB ⟨#[c]⟩ 0 (Lib.countB s ⟨#[c]⟩) s).map Value.string=(l7 c s.data.toList).map fun x=>Value.string (byA x):=by
 have h:=Lib.splitB_data ⟨#[c]⟩ 0 (Lib.countB s ⟨#[c]⟩) s
 have e:Lib.countB s ⟨#[c]⟩=Lib.count s.data.toList [c]:=rfl
 rw [e] at h ⊢
 have h2:(Lib.splitB ⟨#[c]⟩ 0 (Lib.count s.data.toList [c]) s).map (·.data.toList)=l7 c s.data.toList:=h.trans (Bd c _ _ (Nat.le_refl _))
 rw [<- h2,List.map_map]
 exact List.map_congr_left fun x _=>by
  show Value.string x=Value.string (byA x.data.toList)
  unfold byA
  rw [Array.toArray_toList]
theorem Hn (c:UInt8) (s:ByteArray):aB nu0 (MP c s)=(l7 c s.data.toList).map fun x=>Value.string (byA x):=by
 rw [aq]
 unfold MP
 rw [List.map_map];rfl
theorem z6:SpecOk Tryz.prog 12 Wp:=by
 refine ⟨⟨_,Tryz.func12,by kernel_rfl,by kernel_rfl⟩,fun args v xs w hG hrow hv hrv hh => ?_⟩
 unfold Wp at hv
 split at hv
 ·rename_i s sep
  split at hv
  ·rename_i c hc
   obtain ⟨hb,hv⟩:=gA hv
   obtain rfl:=Option.some.inj hv
   have hs:=of_decide_eq_true hb
   have hsep:sep=⟨#[c]⟩:=by
    obtain ⟨⟨l⟩⟩:=sep
    have:l=[c]:=hc
    rw [this]
   obtain rfl:xs=[.string s,.string sep]:=dX (l:=[.s (.str s),.s (.str sep)]) rfl hh
   obtain ⟨m,hm⟩:=hG.len
   rw [hsep]
   refine (Any.strings_Split Tryz.lays146 (by kernel_rfl) s ⟨#[c]⟩ m w hs hm (Nat.le_refl 1)).mono ?_
   rintro e w' ⟨rfl,rfl⟩
   have hl:(MP c s).length=Lib.countB s ⟨#[c]⟩+1:=by
    have h1:=Lib.splitB_all ⟨#[c]⟩ (Nat.le_refl 1) 0 _ s rfl
    have h2:=congrArg List.length (jJ c s)
    rw [List.length_map,List.length_map] at h2
    unfold MP
    rw [List.length_map];omega
   refine ⟨_,rfl,⟨w.heap.size,Nat.le_refl _,by rw [hl],?_⟩,Below.alloc (Below.refl _ _) (by omega) _⟩
   rw [Hn,<- jJ]
   show (w.heap.push _)[w.heap.size]?=_
   rw [Array.getElem?_push_size];rfl
  ·cases hv
 ·cases hv
def ZR:Eng.Spec
 | [.s (.str s),.s (.str sep)]=>match sep.data.toList with
  | [c]=>.ret (Eng.iv (s.data.toList.count c:Nat))
  | _=>.fail
 | _=>.fail
theorem ND:SpecOk Tryz.prog 21 ZR:=by
 refine ⟨⟨_,Tryz.func21,by kernel_rfl,by kernel_rfl⟩,fun args v xs w hG hrow hv hrv hh => ?_⟩
 unfold ZR at hv
 split at hv
 ·rename_i s sep
  split at hv
  ·rename_i c hc
   obtain rfl:=Option.some.inj hv
   have hsep:sep=⟨#[c]⟩:=by
    obtain ⟨⟨l⟩⟩:=sep
    have:l=[c]:=hc
    rw [this]
   obtain rfl:xs=[.string s,.string sep]:=dX (l:=[.s (.str s),.s (.str sep)]) rfl hh
   rw [hsep]
   refine (Any.strings_Count_one Tryz.lays138 s c w).mono ?_
   rintro e w' ⟨rfl,rfl⟩
   exact ⟨_,rfl,rfl,Below.refl _ _⟩
  ·cases hv
 ·cases hv
def Xd:Eng.Obj:=fun args h=>match args,h with
 | [.ptr 0 0],[(0,.cells t [.nilPtr,.nilSl])]=>if t=TB then .ret (.s (.str ⟨#[]⟩),[]) else .fail
 | a,h=>Rt a h
theorem KC:ObjOk Tryz.prog 15 Xd:=by
 refine ⟨⟨_,Tryz.func15,by kernel_rfl,by kernel_rfl⟩,fun args h v h' ν w hG hgs hok hb hr hv ho => ?_⟩
 unfold Xd at hv
 split at hv
 ·rename_i t
  split at hv
  ·rename_i ht
   subst ht
   obtain ⟨rfl,rfl⟩:V.s (.str ⟨#[]⟩)=v/\([]:Eng.Heap)=h':=by
    have:=Option.some.inj hv
    exact ⟨congrArg Prod.fst this,congrArg Prod.snd this⟩
   obtain ⟨d0,d1,d2⟩:=hr.den 0 _ rfl
   have ea:(aB ν [.ptr 0 0]).toArray=#[.pointer (some ⟨(ν 0).core.blk,0,none⟩)]:=by simp [aB,V.den,d0]
   rw [ea]
   refine (Any.Builder_String_nil Tryz.lays169 Tryz.Builder_Extra_169 w.heap.size _ _ w d2).mono ?_
   rintro e w' ⟨rfl,hw⟩
   exact ⟨ν,rfl,fun _ _=>rfl,⟨fun i b e=>(by cases e),fun i j bi bj ne ei ej=>(by cases ei)⟩,fun i b e=>(by cases e),Prog.of_below hw⟩
  ·cases hv
 ·exact uD.calls args h v h' ν w hG hgs hok hb hr hv ho
end Go.Proofs.YtncmdfdppmfeeaaGreatDoor.Dsk
namespace Go.Proofs.YtncmdfdppmfeeaaGreatDoor.Dsk
open Go.Eng Go.RowKit Mil Rin Go.Proofs.YtncmdfdppmfeeaaGreatDoor.Sys
set_option linter.unusedVariables false
set_option linter.unusedSimpArgs false
set_option maxRecDepth 100000
theorem El {k:Nat} (hk:k<=12):arD (k:Int) (s0 Conf.dflt)=aK k/\tD (k:Int) ⟨s0 Conf.dflt,0⟩:=by
 have h0:SI 90000 (s0 Conf.dflt):=XU (by kernel_rfl) (by kernel_rfl)
 have ok:tD (k:Int) ⟨s0 Conf.dflt,0⟩:=⟨h0,Int.le_refl 0,by show (0:Int)<=(k:Int);omega,by show (k:Int)<=1000;omega,by show ((0:Nat):Int)+((k:Int) - 0)<=90000;omega⟩
 obtain ⟨i,ind⟩:=Va ok
 have e:arD (k:Int) (s0 Conf.dflt)=aK ((k:Int)).toNat:=ind (fun a k=>a=aK k.toNat) Yq.symm fun a k ha hp k0 kn _=>by
  subst hp
  rw [show (k+1).toNat=k.toNat+1 by omega]
  exact Cu (by omega) ha
 exact ⟨e,ok⟩
def arY:Eng.Obj:=fun args h=>match args with
 | [.ptr 0 0,.s (.int .i64 n)]=>opt (yZ N0 h) fun s=>.ite none (decide (1<=n)&&decide (n<=12)&&decide (s=s0 Conf.dflt)) (.ret (Eng.iv 0,vg (eO N3 (aK n.toNat)))) .fail
 | _=>.fail
theorem RA:ObjOk Tryz.prog 69 arY:=S5.of_eval fun args h r hv=>by
 unfold arY at hv
 split at hv
 ·rename_i n
  obtain ⟨s,hd,hv1⟩:=ab hv
  clear hv
  obtain ⟨hc,hv2⟩:=ak hv1
  clear hv1
  rw [Bool.and_eq_true,Bool.and_eq_true] at hc
  have n0:=of_decide_eq_true hc.1.1
  have n1:=of_decide_eq_true hc.1.2
  obtain rfl:=of_decide_eq_true hc.2
  obtain rfl:=Option.some.inj hv2
  obtain ⟨j,rfl⟩:∃ j:Nat,n=((j+1:Nat):Int):=⟨(n - 1).toNat,by omega⟩
  obtain ⟨e,ok⟩:=El (k:=j+1) (by omega)
  unfold arS
  simp only [hd]
  show (T.ite none (Dly.pB (tD ((j+1:Nat):Int) ⟨s0 Conf.dflt,0⟩)) _ _:T (V × Heap)).eval=_
  rw [Dly.qC ok]
  show (T.ite none (arD ((j+1:Nat):Int) (s0 Conf.dflt)).qu.isSome _ _:T (V × Heap)).eval=_
  rw [e];rfl
 ·cases hv
def xz (s:List UInt8) (c:Conf.Cf) (e n:Int):Prop:=(Txt.OR [Conf.cM Conf.dflt,.s (.str ⟨⟨s⟩⟩)]).eval=some (.tup [Conf.cM c,Eng.iv e,Eng.iv n])
def Et:List UInt8:=[109,105,110,58,32,120]
def EY:List UInt8:=[109,105,110,58,32,50]
def jc:List UInt8:=[105,110,105,116,105,97,108,58,32,48]
theorem pk_0:xz [] Conf.dflt 0 0:=(by kernel_rfl:(Txt.OR [Conf.cM Conf.dflt,.s (.str ⟨⟨[]⟩⟩)]).eval=some (.tup [Conf.cM Conf.dflt,Eng.iv 0,Eng.iv 0]))
theorem pk_1:xz Et Conf.dflt 4 1:=(by kernel_rfl:(Txt.OR [Conf.cM Conf.dflt,.s (.str ⟨⟨Et⟩⟩)]).eval=some (.tup [Conf.cM Conf.dflt,Eng.iv 4,Eng.iv 1]))
theorem pk_2:xz EY { Conf.dflt with min:=2 } 0 0:=(by kernel_rfl:(Txt.OR [Conf.cM Conf.dflt,.s (.str ⟨⟨EY⟩⟩)]).eval=some (.tup [Conf.cM { Conf.dflt with min:=2 },Eng.iv 0,Eng.iv 0]))
theorem pk_3:xz jc { Conf.dflt with initial:=0 } 0 0:=(by kernel_rfl:(Txt.OR [Conf.cM Conf.dflt,.s (.str ⟨⟨jc⟩⟩)]).eval=some (.tup [Conf.cM { Conf.dflt with initial:=0 },Eng.iv 0,Eng.iv 0]))
def Uw:Eng.Spec
 | [x,.s (.str s)]=>Conf.gg x fun c=>.ite none (decide (c=Conf.dflt)&&decide (s.data.toList=[])) (.ret (.tup [Conf.cM Conf.dflt,Eng.iv 0,Eng.iv 0]))
  (.ite none (decide (c=Conf.dflt)&&decide (s.data.toList=Et)) (.ret (.tup [Conf.cM Conf.dflt,Eng.iv 4,Eng.iv 1]))
  (.ite none (decide (c=Conf.dflt)&&decide (s.data.toList=EY)) (.ret (.tup [Conf.cM { Conf.dflt with min:=2 },Eng.iv 0,Eng.iv 0]))
  (.ite none (decide (c=Conf.dflt)&&decide (s.data.toList=jc)) (.ret (.tup [Conf.cM { Conf.dflt with initial:=0 },Eng.iv 0,Eng.iv 0])) .fail)))
 | _=>.fail
theorem uU:SpecOk Tryz.prog 7 Uw:=Txt.OP.of_eval fun args v hv=>by
 unfold Uw at hv
 split at hv
 ·rename_i x s
  obtain ⟨c,rfl,hv⟩:=Conf.bN hv
  have key:∀ (y:List UInt8) (d:Conf.Cf) (e n:Int),xz y d e n->(decide (c=Conf.dflt)&&decide (s.data.toList=y))=true->(Txt.OR [Conf.cM c,.s (.str s)]).eval=some (.tup [Conf.cM d,Eng.iv e,Eng.iv n]):=fun y d e n h q=>by
   rw [Bool.and_eq_true] at q
   rw [of_decide_eq_true q.1]
   unfold xz at h
   rw [<- of_decide_eq_true q.2] at h
   exact h
  cases q:(decide (c=Conf.dflt)&&decide (s.data.toList=[])) with
  | true=>obtain rfl:=Option.some.inj (Dec.gD hv q);exact key _ _ _ _ pk_0 q
  | false =>
   have hv:=Dec.gz hv q
   clear q
   cases q:(decide (c=Conf.dflt)&&decide (s.data.toList=Et)) with
   | true=>obtain rfl:=Option.some.inj (Dec.gD hv q);exact key _ _ _ _ pk_1 q
   | false =>
    have hv:=Dec.gz hv q
    clear q
    cases q:(decide (c=Conf.dflt)&&decide (s.data.toList=EY)) with
    | true=>obtain rfl:=Option.some.inj (Dec.gD hv q);exact key _ _ _ _ pk_2 q
    | false =>
     have hv:=Dec.gz hv q
     clear q
     cases q:(decide (c=Conf.dflt)&&decide (s.data.toList=jc)) with
     | true=>obtain rfl:=Option.some.inj (Dec.gD hv q);exact key _ _ _ _ pk_3 q
     | false=>cases (Dec.gz hv q:(T.fail:T V).eval=some v)
 ·cases hv
end Go.Proofs.YtncmdfdppmfeeaaGreatDoor.Dsk
namespace Go.Proofs.YtncmdfdppmfeeaaGreatDoor.Dsk
open Go.Eng Go.RowKit
set_option linter.unusedVariables false
set_option linter.unusedSimpArgs false
set_option maxRecDepth 100000
theorem cH:Tryz.prog.follows .mixedOrders=true:=Checked.mixed Tryz.checked
theorem Iz:EOk Tryz.prog [xG]:=⟨⟨by kernel_rfl,by kernel_rfl⟩,trivial⟩
noncomputable def D0:Cfg:=⟨Tryz.prog,lookG [],[],0⟩
theorem mq:D0.Ok:=Cfg.ok trivial trivial
noncomputable def hsX:Eng.Spec:=aC D0 aa 52
theorem QC:SpecOk Tryz.prog 52 hsX:=af mq cH Tryz.func52 (by kernel_rfl) (by kernel_rfl)
noncomputable def Q0:Cfg:=⟨Tryz.prog,lookG [(52,.val hsX)],[],0⟩
theorem Mz:Q0.Ok:=Cfg.ok ⟨QC,trivial⟩ trivial
noncomputable def hsY:Eng.Spec:=aC Q0 aa 22
theorem Vj:SpecOk Tryz.prog 22 hsY:=af Mz cH Tryz.func22 (by kernel_rfl) (by kernel_rfl)
noncomputable def Q1:Cfg:=⟨Tryz.prog,lookG [(21,.val ZR),(22,.val hsY)],[],0⟩
theorem lz:Q1.Ok:=Cfg.ok ⟨ND,Vj,trivial⟩ trivial
noncomputable def WE:Eng.Spec:=aC Q1 aa 10
theorem C8:SpecOk Tryz.prog 10 WE:=af lz cH Tryz.func10 (by kernel_rfl) (by kernel_rfl)
noncomputable def abr:Eng.Spec:=aC D0 (rounds D0 6 1) 65
theorem LY:SpecOk Tryz.prog 65 abr:=bC mq cH 6 1 Tryz.func65 (by kernel_rfl) (by kernel_rfl)
noncomputable def aaM:Eng.Spec:=aC D0 aa 64
theorem Kj:SpecOk Tryz.prog 64 aaM:=af mq cH Tryz.func64 (by kernel_rfl) (by kernel_rfl)
noncomputable def Q2:Cfg:=⟨Tryz.prog,lookG [(12,.val Wp),(64,.val (Eng.Spec.plain aaM)),(65,.val (Eng.Spec.plain abr))],[],0⟩
theorem vc:Q2.Ok:=Cfg.ok ⟨z6,Kj.plain,LY.plain,trivial⟩ trivial
noncomputable def rdX:Eng.Spec:=aC Q2 aa 33
theorem IU:SpecOk Tryz.prog 33 rdX:=af vc cH Tryz.func33 (by kernel_rfl) (by kernel_rfl)
noncomputable def Q3:Cfg:=⟨Tryz.prog,lookG [(9,.val Txt.iI),(114,.val Rep.F8)],[],0⟩
theorem PX:Q3.Ok:=Cfg.ok ⟨Txt.cF,Rep.wY,trivial⟩ trivial
noncomputable def abH:Eng.Spec:=aC Q3 (rounds Q3 9 1) 77
theorem MS:SpecOk Tryz.prog 77 abH:=bC PX cH 9 1 Tryz.func77 (by kernel_rfl) (by kernel_rfl)
noncomputable def aaa:Eng.Spec:=aC Q3 (rounds Q3 9 1) 78
theorem zX:SpecOk Tryz.prog 78 aaa:=bC PX cH 9 1 Tryz.func78 (by kernel_rfl) (by kernel_rfl)
noncomputable def Q4:Cfg:=⟨Tryz.prog,lookG [(73,.obj (Eng.Obj.plain Rep.lnE)),(74,.obj Sys.seS),(75,.obj (Eng.Obj.plain Rep.enE)),(76,.obj Sys.Yl),(77,.val (Eng.Spec.plain abH)),(78,.val (Eng.Spec.plain aaa)),(79,.obj Sys.laS)],[],0⟩
theorem Xu:Q4.Ok:=Cfg.ok ⟨Rep.Tp.plain,Sys.IE,Rep.RF.plain,Sys.NL,MS.plain,zX.plain,Sys.PY,trivial⟩ trivial
noncomputable def lkX:Eng.Obj:=ay Q4 aa 35
theorem Sc:ObjOk Tryz.prog 35 lkX:=ae Xu cH Tryz.func35 (by kernel_rfl) (by kernel_rfl)
noncomputable def abQ:Eng.Obj:=ay Dec.Y3 aa 108
theorem Lv:ObjOk Tryz.prog 108 abQ:=ae Dec.Mu cH Tryz.func108 (by kernel_rfl) (by kernel_rfl)
noncomputable def Q9:Cfg:=⟨Tryz.prog,lookG [(7,.val Uw),(108,.obj (Eng.Obj.plainR abQ)),(109,.obj (Eng.Obj.plainR Que.Im)),(103,.obj (Eng.Obj.plainR Sys.snT))],[],0⟩
theorem Zx:Q9.Ok:=Cfg.ok ⟨uU,Lv.plainR,Que.Ar.plainR,Sys.Dk.plainR,trivial⟩ trivial
noncomputable def abk:Eng.Obj:=ay Q9 aa 72
theorem Pb:ObjOk Tryz.prog 72 abk:=ae Zx cH Tryz.func72 (by kernel_rfl) (by kernel_rfl)
noncomputable def Q5:Cfg:=⟨Tryz.prog,lookG [(66,.obj Sys.D6),(67,.val Evt.lg),(68,.obj (Eng.Obj.plainR Sys.paT)),(69,.obj arY),(70,.obj (Eng.Obj.plainR Sys.fiT)),(72,.obj (Eng.Obj.plainR abk))],[],0⟩
theorem ZV:Q5.Ok:=Cfg.ok ⟨Sys.gC,Evt.dj,Sys.T8.plainR,RA,Sys.U8.plainR,Pb.plainR,trivial⟩ trivial
noncomputable def doD:Eng.Obj:=ay Q5 aa 34
theorem UG:ObjOk Tryz.prog 34 doD:=ae ZV cH Tryz.func34 (by kernel_rfl) (by kernel_rfl)
noncomputable def Q6:Cfg:=⟨Tryz.prog,lookG [(33,.val (Eng.Spec.plain rdX)),(34,.obj (Eng.Obj.plainR doD)),(35,.obj (Eng.Obj.plainR lkX)),(9,.val Txt.iI)],[],0⟩
theorem ZE:Q6.Ok:=Cfg.ok ⟨IU.plain,UG.plainR,Sc.plainR,Txt.cF,trivial⟩ trivial
noncomputable def aaC:Eng.Obj:=ay Q6 aa 14
theorem Ng:ObjOk Tryz.prog 14 aaC:=ae ZE cH Tryz.func14 (by kernel_rfl) (by kernel_rfl)
noncomputable def Q7:Cfg:=⟨Tryz.prog,lookG [(7,.val Uw),(8,.val Conf.ED),(9,.val Txt.iI),(10,.val (Eng.Spec.plain WE)),(11,.obj (Eng.Obj.plainR Sys.neS)),(12,.val Wp),(14,.obj (Eng.Obj.plainR aaC)),(13,.obj (Eng.Obj.plainR Txt.wrR)),(15,.obj Xd)],[xG],0⟩
theorem XN:Q7.Ok:=Cfg.ok ⟨uU,Conf.C6,Txt.cF,C8.plain,Sys.H9.plainR,z6,Ng.plainR,Txt.Qi.plainR,KC,trivial⟩ Iz
noncomputable def lG:Eng.Spec:=aC Q7 (rounds Q7 13 1) 6
theorem Na:SpecOk Tryz.prog 6 lG:=bC XN cH 13 1 Tryz.func6 (by kernel_rfl) (by kernel_rfl)
end Go.Proofs.YtncmdfdppmfeeaaGreatDoor.Dsk
namespace Go.Proofs.YtncmdfdppmfeeaaGreatDoor.Dsk
open Go.Eng Go.RowKit Go.Proofs.YtncmdfdppmfeeaaGreatDoor.Txt
set_option linter.unusedVariables false
set_option linter.unusedSimpArgs false
set_option maxRecDepth 100000
def dU (a s o:List UInt8):Prop:=(lG [.s (.str ⟨⟨a⟩⟩),.s (.str ⟨⟨s⟩⟩)]).eval=some (.s (.str ⟨⟨o⟩⟩))
def XY:List UInt8:=[115,101,101,10]
def Y7:List UInt8:=[10,115,101,101]
def cg:List UInt8:=[48,32,49,32,49,32,49,32,48,32,48,32,112,114,111,120,121,10,101,114,114,111,114,10,48,32,49,32,49,32,49,32,48,32,48,32,112,114,111,120,121,10]
def VR:List (List UInt8):=[[116,105,99,107],[116,105,99,107,32,120],[116,105,99,107,32,49,50,51,52,53],[116,105,99,107,32,49,32,50],[97,114,114,105,118,101],[102,105,110,105,115,104,32,45,49],[99,114,97,115,104],[108,111,115,101,32,120],[115,101,116],[115,101,116,32,109,105,110],[115,101,116,32,109,105,110,32,49,32,50],[115,101,101,32,49],[112,111,100,115,32,120],[101,110,100,115,32,48],[108,97,115,116,32,49],[32,115,101,101],[84,105,99,107,32,49],[116,105,99,107,32,32,49]]
def fK (w:List UInt8):List UInt8:=XY++(w++Y7)
def Vs:List UInt8:=[]
def Wm:List UInt8:=[115,101,101,10,97,114,114,105,118,101,32,51,10,116,105,99,107,32,49,10,115,101,101,10,112,111,100,115,10,101,110,100,115,10,120,10,102,105,110,105,115,104,32,57,10,115,101,116,32,109,105,110,32,120,10,115,101,116,32,109,105,110,32,50]
def Xw:List UInt8:=[48,32,49,32,49,32,49,32,48,32,48,32,112,114,111,120,121,10,48,10,48,10,49,32,49,32,49,32,49,32,48,32,51,32,112,114,111,120,121,10,48,58,50,58,51,10,48,32,51,32,48,32,48,32,48,32,48,10,101,114,114,111,114,10,55,10,52,10,48,10]
def Wv:List UInt8:=[109,105,110,58,32,120]
def VK:List UInt8:=[115,101,101]
def XM:List UInt8:=[101,114,114,111,114,32,52,32,49,10]
def V9:List UInt8:=[]
def V7:List UInt8:=[]
def Xy:List UInt8:=[]
end Go.Proofs.YtncmdfdppmfeeaaGreatDoor.Dsk
