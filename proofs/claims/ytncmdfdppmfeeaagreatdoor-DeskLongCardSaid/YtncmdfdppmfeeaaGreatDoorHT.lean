import Derived.Test.YtncmdfdppmfeeaaGreatDoorP1
import Derived.Test.YtncmdfdppmfeeaaGreatDoorP2
import Derived.Test.YtncmdfdppmfeeaaGreatDoorP3
import Derived.Test.YtncmdfdppmfeeaaGreatDoorP4
namespace Go.Proofs.YtncmdfdppmfeeaaGreatDoor.Dsk
open Go.Eng Go.RowKit Go.Proofs.YtncmdfdppmfeeaaGreatDoor.Txt
set_option linter.unusedVariables false
set_option linter.unusedSimpArgs false
set_option maxRecDepth 100000
theorem Fy:∀ w∈VR,dU [] (fK w) cg:=by
 intro w hw
 simp only [VR,List.mem_cons,List.not_mem_nil,or_false] at hw
 rcases hw with rfl | rfl | rfl | rfl | rfl | rfl | rfl | rfl | rfl | rfl | rfl | rfl | rfl | rfl | rfl | rfl | rfl | rfl
 ·exact Xg
 ·exact ZB
 ·exact XQ
 ·exact YZ
 ·exact W6
 ·exact Za
 ·exact Yk
 ·exact Yv
 ·exact X6
 ·exact Yz
 ·exact Ro
 ·exact Uv
 ·exact Qc
 ·exact UY
 ·exact Ub
 ·exact Qg
 ·exact Sw
 ·exact RW
def runT:Eng.Spec
 | [.s (.str a),.s (.str s)]=>.ite none (decide (a.data.toList=[])&&decide (s.data.toList∈VR.map fK)) (.ret (.s (.str ⟨⟨cg⟩⟩)))
  (.ite none (decide (a.data.toList=Vs)&&decide (s.data.toList=Wm)) (.ret (.s (.str ⟨⟨Xw⟩⟩)))
  (.ite none (decide (a.data.toList=Wv)&&decide (s.data.toList=VK)) (.ret (.s (.str ⟨⟨XM⟩⟩)))
  (.ite none (decide (a.data.toList=V9)&&decide (s.data.toList=V7)) (.ret (.s (.str ⟨⟨Xy⟩⟩))) .fail)))
 | _=>.fail
theorem LK:SpecOk Tryz.prog 6 runT:=Na.of_eval fun args v hv=>by
 unfold runT at hv
 split at hv
 ·rename_i a s
  have key:∀ x y o:List UInt8,dU x y o->a.data.toList=x->s.data.toList=y->(lG [.s (.str a),.s (.str s)]).eval=some (.s (.str ⟨⟨o⟩⟩)):=fun x y o h ea es=>by
   unfold dU at h
   rw [<- ea,<- es] at h
   exact h
  have two:∀ {p q:Prop} [Decidable p] [Decidable q],(decide p&&decide q)=true->p/\q:=fun h=>by
   rw [Bool.and_eq_true] at h
   exact ⟨of_decide_eq_true h.1,of_decide_eq_true h.2⟩
  cases c:(decide (a.data.toList=[])&&decide (s.data.toList∈VR.map fK)) with
  | true =>
   obtain rfl:=Option.some.inj (Dec.gD hv c)
   obtain ⟨h1,h2⟩:=two c
   obtain ⟨w,hw,e⟩:=List.mem_map.1 h2
   exact key _ _ _ (Fy w hw) h1 e.symm
  | false =>
   have hv:=Dec.gz hv c
   clear c
   cases c:(decide (a.data.toList=Vs)&&decide (s.data.toList=Wm)) with
   | true =>
    obtain rfl:=Option.some.inj (Dec.gD hv c)
    obtain ⟨h1,h2⟩:=two c
    exact key _ _ _ ZG h1 h2
   | false =>
    have hv:=Dec.gz hv c
    clear c
    cases c:(decide (a.data.toList=Wv)&&decide (s.data.toList=VK)) with
    | true =>
     obtain rfl:=Option.some.inj (Dec.gD hv c)
     obtain ⟨h1,h2⟩:=two c
     exact key _ _ _ Zl h1 h2
    | false =>
     have hv:=Dec.gz hv c
     clear c
     cases c:(decide (a.data.toList=V9)&&decide (s.data.toList=V7)) with
     | true =>
      obtain rfl:=Option.some.inj (Dec.gD hv c)
      obtain ⟨h1,h2⟩:=two c
      exact key _ _ _ XE h1 h2
     | false=>cases (Dec.gz hv c:(T.fail:T V).eval=some v)
 ·cases hv
noncomputable def Q11:Cfg:=⟨Tryz.prog,lookG [(6,.val runT)],[],0⟩
theorem S3:Q11.Ok:=Cfg.ok ⟨LK,trivial⟩ trivial
noncomputable def Sj:Eng.Spec:=aC Q11 aa 5
theorem EL:SpecOk Tryz.prog 5 Sj:=af S3 cH Tryz.func5 (by kernel_rfl) (by kernel_rfl)
theorem AB:(Sj []).eval=some (.s (.bool true)):=by kernel_rfl
theorem BP:SpecOk Tryz.prog 5 Rin.Xt :=
 EL.of_den fun args v _ h=>by
  unfold Rin.Xt at h
  split at h
  ·simp only [T.eval,Option.some.injEq] at h
   subst h
   exact ⟨_,AB,⟨rfl,rfl⟩,rfl⟩
  ·cases h
end Go.Proofs.YtncmdfdppmfeeaaGreatDoor.Dsk
