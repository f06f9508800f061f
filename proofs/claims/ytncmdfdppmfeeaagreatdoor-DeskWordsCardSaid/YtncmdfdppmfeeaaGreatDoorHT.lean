import Derived.Test.YtncmdfdppmfeeaaGreatDoorP1
import Derived.Test.YtncmdfdppmfeeaaGreatDoorP2
import Derived.Test.YtncmdfdppmfeeaaGreatDoorP3
import Derived.Test.YtncmdfdppmfeeaaGreatDoorP4
namespace Go.Proofs.YtncmdfdppmfeeaaGreatDoor.Dsk
open Go.Eng Go.RowKit Go.Proofs.YtncmdfdppmfeeaaGreatDoor.Txt
set_option linter.unusedVariables false
set_option linter.unusedSimpArgs false
set_option maxRecDepth 100000
theorem E3:∀ w∈U8,dO [] (fH w) cg:=by
 intro w hw
 simp only [U8,List.mem_cons,List.not_mem_nil,or_false] at hw
 rcases hw with rfl | rfl | rfl | rfl | rfl | rfl | rfl | rfl | rfl | rfl | rfl | rfl | rfl | rfl | rfl | rfl | rfl | rfl
 ·exact Wn
 ·exact Ye
 ·exact Xd
 ·exact Wl
 ·exact We
 ·exact WN
 ·exact Wj
 ·exact YW
 ·exact Xb
 ·exact Xx
 ·exact O7
 ·exact Pg
 ·exact SF
 ·exact Rs
 ·exact OI
 ·exact OX
 ·exact QC
 ·exact Qk
def runT:Eng.Spec
 | [.s (.str a),.s (.str s)]=>.ite none (decide (a.data.toList=[])&&decide (s.data.toList∈U8.map fH)) (.ret (.s (.str ⟨⟨cg⟩⟩)))
  (.ite none (decide (a.data.toList=UF)&&decide (s.data.toList=Vi)) (.ret (.s (.str ⟨⟨YH⟩⟩)))
  (.ite none (decide (a.data.toList=Ve)&&decide (s.data.toList=UZ)) (.ret (.s (.str ⟨⟨XV⟩⟩)))
  (.ite none (decide (a.data.toList=UW)&&decide (s.data.toList=U0)) (.ret (.s (.str ⟨⟨XZ⟩⟩))) .fail)))
 | _=>.fail
theorem Cs:SpecOk Tryz.prog 6 runT:=NF.of_eval fun args v hv=>by
 unfold runT at hv
 split at hv
 ·rename_i a s
  have key:∀ x y o:List UInt8,dO x y o->a.data.toList=x->s.data.toList=y->(lI [.s (.str a),.s (.str s)]).eval=some (.s (.str ⟨⟨o⟩⟩)):=fun x y o h ea es=>by
   unfold dO at h
   rw [<- ea,<- es] at h
   exact h
  have two:∀ {p q:Prop} [Decidable p] [Decidable q],(decide p&&decide q)=true->p/\q:=fun h=>by
   rw [Bool.and_eq_true] at h
   exact ⟨of_decide_eq_true h.1,of_decide_eq_true h.2⟩
  cases c:(decide (a.data.toList=[])&&decide (s.data.toList∈U8.map fH)) with
  | true =>
   obtain rfl:=Option.some.inj (Dec.iz hv c)
   obtain ⟨h1,h2⟩:=two c
   obtain ⟨w,hw,e⟩:=List.mem_map.1 h2
   exact key _ _ _ (E3 w hw) h1 e.symm
  | false =>
   have hv:=Dec.iB hv c
   clear c
   cases c:(decide (a.data.toList=UF)&&decide (s.data.toList=Vi)) with
   | true =>
    obtain rfl:=Option.some.inj (Dec.iz hv c)
    obtain ⟨h1,h2⟩:=two c
    exact key _ _ _ Xu h1 h2
   | false =>
    have hv:=Dec.iB hv c
    clear c
    cases c:(decide (a.data.toList=Ve)&&decide (s.data.toList=UZ)) with
    | true =>
     obtain rfl:=Option.some.inj (Dec.iz hv c)
     obtain ⟨h1,h2⟩:=two c
     exact key _ _ _ XU h1 h2
    | false =>
     have hv:=Dec.iB hv c
     clear c
     cases c:(decide (a.data.toList=UW)&&decide (s.data.toList=U0)) with
     | true =>
      obtain rfl:=Option.some.inj (Dec.iz hv c)
      obtain ⟨h1,h2⟩:=two c
      exact key _ _ _ V3 h1 h2
     | false=>cases (Dec.iB hv c:(T.fail:T V).eval=some v)
 ·cases hv
noncomputable def Q11:Cfg:=⟨Tryz.prog,lookG [(6,.val runT)],[],0⟩
theorem Rv:Q11.Ok:=Cfg.ok ⟨Cs,trivial⟩ trivial
noncomputable def Qu:Eng.Spec:=aC Q11 aa 5
theorem DJ:SpecOk Tryz.prog 5 Qu:=ae Rv dI Tryz.func5 (by kernel_rfl) (by kernel_rfl)
theorem zw:(Qu []).eval=some (.s (.bool true)):=by kernel_rfl
theorem yP:SpecOk Tryz.prog 5 Rin.Xk :=
 DJ.of_den fun args v _ h=>by
  unfold Rin.Xk at h
  split at h
  ·simp only [T.eval,Option.some.injEq] at h
   subst h
   exact ⟨_,zw,⟨rfl,rfl⟩,rfl⟩
  ·cases h
noncomputable def Q12:Cfg:=⟨Tryz.prog,lookG [(5,.val Rin.Xk),(6,.val runT)],[Yc],0⟩
theorem eArr:EOk Tryz.prog [Yc]:=⟨⟨by kernel_rfl,by kernel_rfl⟩,trivial⟩
theorem S4:Q12.Ok:=Cfg.ok ⟨yP,Cs,trivial⟩ eArr
noncomputable def dwE:Eng.Spec:=aC Q12 aa 4
theorem Tw:SpecOk Tryz.prog 4 dwE:=ae S4 dI Tryz.func4 (by kernel_rfl) (by kernel_rfl)
end Go.Proofs.YtncmdfdppmfeeaaGreatDoor.Dsk
