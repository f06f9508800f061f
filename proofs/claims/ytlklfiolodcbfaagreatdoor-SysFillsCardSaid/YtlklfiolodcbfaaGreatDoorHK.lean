import Derived.Test.YtlklfiolodcbfaaGreatDoorHF
/- Layer 4: lines told,of the document's line. -/
namespace Go.Proofs.YtlklfiolodcbfaaGreatDoor.Txt
open Go.Eng Go.RowKit
set_option linter.unusedVariables false
set_option linter.unusedSimpArgs false
set_option maxRecDepth 100000
def decB (n:Nat):List UInt8:=if n<10 then [(48+n).toUInt8] else [(48+n / 10).toUInt8,(48+n % 10).toUInt8]
def limB (n:Nat):List UInt8:=[108,105,109,105,116,58,32]++decB n
def queB (n:Nat):List UInt8:=[113,117,101,117,101,58,32]++decB n
def isLn (l:List UInt8) (k n:Int):Prop:=(linZ [.s (.str ⟨⟨l⟩⟩)]).eval=some (.tup [Eng.iv k,Eng.iv n])
end Go.Proofs.YtlklfiolodcbfaaGreatDoor.Txt
/- Layer 4: lines told (1). -/
namespace Go.Proofs.YtlklfiolodcbfaaGreatDoor.Txt
open Go.Eng Go.RowKit
set_option linter.unusedVariables false
set_option linter.unusedSimpArgs false
set_option maxRecDepth 100000
theorem limL1:(linZ [.s (.str ⟨⟨limB 1⟩⟩)]).eval=some (.tup [Eng.iv 14,Eng.iv 1]):=by kernel_rfl
theorem limL2:(linZ [.s (.str ⟨⟨limB 2⟩⟩)]).eval=some (.tup [Eng.iv 14,Eng.iv 2]):=by kernel_rfl
theorem limL3:(linZ [.s (.str ⟨⟨limB 3⟩⟩)]).eval=some (.tup [Eng.iv 14,Eng.iv 3]):=by kernel_rfl
theorem limL4:(linZ [.s (.str ⟨⟨limB 4⟩⟩)]).eval=some (.tup [Eng.iv 14,Eng.iv 4]):=by kernel_rfl
theorem limL5:(linZ [.s (.str ⟨⟨limB 5⟩⟩)]).eval=some (.tup [Eng.iv 14,Eng.iv 5]):=by kernel_rfl
theorem limL6:(linZ [.s (.str ⟨⟨limB 6⟩⟩)]).eval=some (.tup [Eng.iv 14,Eng.iv 6]):=by kernel_rfl
theorem limL7:(linZ [.s (.str ⟨⟨limB 7⟩⟩)]).eval=some (.tup [Eng.iv 14,Eng.iv 7]):=by kernel_rfl
theorem limL8:(linZ [.s (.str ⟨⟨limB 8⟩⟩)]).eval=some (.tup [Eng.iv 14,Eng.iv 8]):=by kernel_rfl
theorem limL9:(linZ [.s (.str ⟨⟨limB 9⟩⟩)]).eval=some (.tup [Eng.iv 14,Eng.iv 9]):=by kernel_rfl
theorem queL0:(linZ [.s (.str ⟨⟨queB 0⟩⟩)]).eval=some (.tup [Eng.iv 15,Eng.iv 0]):=by kernel_rfl
end Go.Proofs.YtlklfiolodcbfaaGreatDoor.Txt
/- Layer 4: lines told (2). -/
namespace Go.Proofs.YtlklfiolodcbfaaGreatDoor.Txt
open Go.Eng Go.RowKit
set_option linter.unusedVariables false
set_option linter.unusedSimpArgs false
set_option maxRecDepth 100000
theorem queL1:(linZ [.s (.str ⟨⟨queB 1⟩⟩)]).eval=some (.tup [Eng.iv 15,Eng.iv 1]):=by kernel_rfl
theorem queL2:(linZ [.s (.str ⟨⟨queB 2⟩⟩)]).eval=some (.tup [Eng.iv 15,Eng.iv 2]):=by kernel_rfl
theorem queL3:(linZ [.s (.str ⟨⟨queB 3⟩⟩)]).eval=some (.tup [Eng.iv 15,Eng.iv 3]):=by kernel_rfl
theorem queL4:(linZ [.s (.str ⟨⟨queB 4⟩⟩)]).eval=some (.tup [Eng.iv 15,Eng.iv 4]):=by kernel_rfl
theorem queL5:(linZ [.s (.str ⟨⟨queB 5⟩⟩)]).eval=some (.tup [Eng.iv 15,Eng.iv 5]):=by kernel_rfl
theorem queL6:(linZ [.s (.str ⟨⟨queB 6⟩⟩)]).eval=some (.tup [Eng.iv 15,Eng.iv 6]):=by kernel_rfl
theorem queL7:(linZ [.s (.str ⟨⟨queB 7⟩⟩)]).eval=some (.tup [Eng.iv 15,Eng.iv 7]):=by kernel_rfl
theorem queL8:(linZ [.s (.str ⟨⟨queB 8⟩⟩)]).eval=some (.tup [Eng.iv 15,Eng.iv 8]):=by kernel_rfl
theorem queL9:(linZ [.s (.str ⟨⟨queB 9⟩⟩)]).eval=some (.tup [Eng.iv 15,Eng.iv 9]):=by kernel_rfl
theorem queL10:(linZ [.s (.str ⟨⟨queB 10⟩⟩)]).eval=some (.tup [Eng.iv 15,Eng.iv 10]):=by kernel_rfl
end Go.Proofs.YtlklfiolodcbfaaGreatDoor.Txt
/- Layer 4: lines told (3). -/
namespace Go.Proofs.YtlklfiolodcbfaaGreatDoor.Txt
open Go.Eng Go.RowKit
set_option linter.unusedVariables false
set_option linter.unusedSimpArgs false
set_option maxRecDepth 100000
theorem queL11:(linZ [.s (.str ⟨⟨queB 11⟩⟩)]).eval=some (.tup [Eng.iv 15,Eng.iv 11]):=by kernel_rfl
theorem queL12:(linZ [.s (.str ⟨⟨queB 12⟩⟩)]).eval=some (.tup [Eng.iv 15,Eng.iv 12]):=by kernel_rfl
theorem queL13:(linZ [.s (.str ⟨⟨queB 13⟩⟩)]).eval=some (.tup [Eng.iv 15,Eng.iv 13]):=by kernel_rfl
theorem queL14:(linZ [.s (.str ⟨⟨queB 14⟩⟩)]).eval=some (.tup [Eng.iv 15,Eng.iv 14]):=by kernel_rfl
theorem queL15:(linZ [.s (.str ⟨⟨queB 15⟩⟩)]).eval=some (.tup [Eng.iv 15,Eng.iv 15]):=by kernel_rfl
theorem queL16:(linZ [.s (.str ⟨⟨queB 16⟩⟩)]).eval=some (.tup [Eng.iv 15,Eng.iv 16]):=by kernel_rfl
theorem queL17:(linZ [.s (.str ⟨⟨queB 17⟩⟩)]).eval=some (.tup [Eng.iv 15,Eng.iv 17]):=by kernel_rfl
theorem queL18:(linZ [.s (.str ⟨⟨queB 18⟩⟩)]).eval=some (.tup [Eng.iv 15,Eng.iv 18]):=by kernel_rfl
theorem queL19:(linZ [.s (.str ⟨⟨queB 19⟩⟩)]).eval=some (.tup [Eng.iv 15,Eng.iv 19]):=by kernel_rfl
theorem queL20:(linZ [.s (.str ⟨⟨queB 20⟩⟩)]).eval=some (.tup [Eng.iv 15,Eng.iv 20]):=by kernel_rfl
end Go.Proofs.YtlklfiolodcbfaaGreatDoor.Txt
/- Layer 4: lines told: a contract of line. -/
namespace Go.Proofs.YtlklfiolodcbfaaGreatDoor.Txt
open Go.Eng Go.RowKit
set_option linter.unusedVariables false
set_option linter.unusedSimpArgs false
set_option maxRecDepth 100000
def lnT:List (List UInt8 × Int × Int):=[(limB 1,14,1),(limB 2,14,2),(limB 3,14,3),(limB 4,14,4),(limB 5,14,5),(limB 6,14,6),(limB 7,14,7),(limB 8,14,8),(limB 9,14,9),(queB 0,15,0),(queB 1,15,1),(queB 2,15,2),(queB 3,15,3),(queB 4,15,4),(queB 5,15,5),(queB 6,15,6),(queB 7,15,7),(queB 8,15,8),(queB 9,15,9),(queB 10,15,10),(queB 11,15,11),(queB 12,15,12),(queB 13,15,13),(queB 14,15,14),(queB 15,15,15),(queB 16,15,16),(queB 17,15,17),(queB 18,15,18),(queB 19,15,19),(queB 20,15,20)]
theorem lnT_ok:∀ p∈lnT,isLn p.1 p.2.1 p.2.2:=by
 intro p hp
 simp only [lnT,List.mem_cons,List.not_mem_nil,or_false] at hp
 rcases hp with rfl | rfl | rfl | rfl | rfl | rfl | rfl | rfl | rfl | rfl | rfl | rfl | rfl | rfl | rfl | rfl | rfl | rfl | rfl | rfl | rfl | rfl | rfl | rfl | rfl | rfl | rfl | rfl | rfl | rfl
 ·exact limL1
 ·exact limL2
 ·exact limL3
 ·exact limL4
 ·exact limL5
 ·exact limL6
 ·exact limL7
 ·exact limL8
 ·exact limL9
 ·exact queL0
 ·exact queL1
 ·exact queL2
 ·exact queL3
 ·exact queL4
 ·exact queL5
 ·exact queL6
 ·exact queL7
 ·exact queL8
 ·exact queL9
 ·exact queL10
 ·exact queL11
 ·exact queL12
 ·exact queL13
 ·exact queL14
 ·exact queL15
 ·exact queL16
 ·exact queL17
 ·exact queL18
 ·exact queL19
 ·exact queL20
def linD:Eng.Spec
 | [.s (.str s)]=>opt (lnT.find? fun p=>p.1==s.data.toList) fun p=>.ret (.tup [Eng.iv p.2.1,Eng.iv p.2.2])
 | _=>.fail
theorem linD_ok:SpecOk Tryz.prog 47 linD:=linZ_ok.of_eval fun args v hv=>by
 unfold linD at hv
 split at hv
 ·rename_i s
  obtain ⟨p,hf,h2⟩:=opt_eval hv
  obtain rfl:=Option.some.inj h2
  have hm:p∈lnT:=List.mem_of_find?_eq_some hf
  have he:(p.1==s.data.toList)=true:=List.find?_some (p:=fun p:List UInt8 × Int × Int=>p.1==s.data.toList) hf
  have e:p.1=s.data.toList:=by simpa using he
  have:=lnT_ok p hm
  unfold isLn at this
  rw [e] at this
  exact this
 ·cases hv
noncomputable def Y3:Cfg:=⟨Tryz.prog,lookG [(46,.val valZ),(48,.val madZ),(47,.val linD),(17,.val Conf.mayS)],[],0⟩
theorem Y3_ok:Y3.Ok:=Cfg.ok ⟨valZ_ok,madZ_ok,linD_ok,Conf.refmay_ok,trivial⟩ trivial
noncomputable def parY:Eng.Spec:=execS Y3 (rounds Y3 40 2) 22
theorem parY_ok:SpecOk Tryz.prog 22 parY:=execS_rounds Y3_ok mixedZ 40 2 Tryz.func22 (by kernel_rfl) (by kernel_rfl)
end Go.Proofs.YtlklfiolodcbfaaGreatDoor.Txt
