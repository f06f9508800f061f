import Derived.Test.YtlklfiolodcbfaaGreatDoorK1
import Derived.Test.YtlklfiolodcbfaaGreatDoorK2
import Derived.Test.YtlklfiolodcbfaaGreatDoorK3
import Derived.Test.YtlklfiolodcbfaaGreatDoorK4
import Derived.Test.YtlklfiolodcbfaaGreatDoorK5
import Derived.Test.YtlklfiolodcbfaaGreatDoorK6
import Derived.Test.YtlklfiolodcbfaaGreatDoorK7
import Derived.Test.YtlklfiolodcbfaaGreatDoorK8
import Derived.Test.YtlklfiolodcbfaaGreatDoorK9
/- Layer 4: the document's Parse of told texts of two lines: a contract. -/
namespace Go.Proofs.YtlklfiolodcbfaaGreatDoor.Txt
open Go.Eng Go.RowKit
set_option linter.unusedVariables false
set_option linter.unusedSimpArgs false
set_option maxRecDepth 100000
deriving instance DecidableEq for Conf.Cf
def txB (a b:Nat):List UInt8:=limB a++([10]++queB b)
def isTx (a b:Nat):Prop:=(parY [Conf.confV Conf.dflt,.s (.str ⟨⟨txB a b⟩⟩)]).eval=some (.tup [Conf.confV { Conf.dflt with limit:=(a:Int),queue:=(b:Int) },Eng.iv 0,Eng.iv 0])
theorem tx_all:∀ a b:Nat,1<=a->a<=9->b<=20->isTx a b:=by
 intro a b h1 h2 h3
 match a,h1,h2 with
 | 1,_,_ =>
  match b,h3 with
  | 0,_=>exact tx1_0
  | 1,_=>exact tx1_1
  | 2,_=>exact tx1_2
  | 3,_=>exact tx1_3
  | 4,_=>exact tx1_4
  | 5,_=>exact tx1_5
  | 6,_=>exact tx1_6
  | 7,_=>exact tx1_7
  | 8,_=>exact tx1_8
  | 9,_=>exact tx1_9
  | 10,_=>exact tx1_10
  | 11,_=>exact tx1_11
  | 12,_=>exact tx1_12
  | 13,_=>exact tx1_13
  | 14,_=>exact tx1_14
  | 15,_=>exact tx1_15
  | 16,_=>exact tx1_16
  | 17,_=>exact tx1_17
  | 18,_=>exact tx1_18
  | 19,_=>exact tx1_19
  | 20,_=>exact tx1_20
  | n+21,h=>omega
 | 2,_,_ =>
  match b,h3 with
  | 0,_=>exact tx2_0
  | 1,_=>exact tx2_1
  | 2,_=>exact tx2_2
  | 3,_=>exact tx2_3
  | 4,_=>exact tx2_4
  | 5,_=>exact tx2_5
  | 6,_=>exact tx2_6
  | 7,_=>exact tx2_7
  | 8,_=>exact tx2_8
  | 9,_=>exact tx2_9
  | 10,_=>exact tx2_10
  | 11,_=>exact tx2_11
  | 12,_=>exact tx2_12
  | 13,_=>exact tx2_13
  | 14,_=>exact tx2_14
  | 15,_=>exact tx2_15
  | 16,_=>exact tx2_16
  | 17,_=>exact tx2_17
  | 18,_=>exact tx2_18
  | 19,_=>exact tx2_19
  | 20,_=>exact tx2_20
  | n+21,h=>omega
 | 3,_,_ =>
  match b,h3 with
  | 0,_=>exact tx3_0
  | 1,_=>exact tx3_1
  | 2,_=>exact tx3_2
  | 3,_=>exact tx3_3
  | 4,_=>exact tx3_4
  | 5,_=>exact tx3_5
  | 6,_=>exact tx3_6
  | 7,_=>exact tx3_7
  | 8,_=>exact tx3_8
  | 9,_=>exact tx3_9
  | 10,_=>exact tx3_10
  | 11,_=>exact tx3_11
  | 12,_=>exact tx3_12
  | 13,_=>exact tx3_13
  | 14,_=>exact tx3_14
  | 15,_=>exact tx3_15
  | 16,_=>exact tx3_16
  | 17,_=>exact tx3_17
  | 18,_=>exact tx3_18
  | 19,_=>exact tx3_19
  | 20,_=>exact tx3_20
  | n+21,h=>omega
 | 4,_,_ =>
  match b,h3 with
  | 0,_=>exact tx4_0
  | 1,_=>exact tx4_1
  | 2,_=>exact tx4_2
  | 3,_=>exact tx4_3
  | 4,_=>exact tx4_4
  | 5,_=>exact tx4_5
  | 6,_=>exact tx4_6
  | 7,_=>exact tx4_7
  | 8,_=>exact tx4_8
  | 9,_=>exact tx4_9
  | 10,_=>exact tx4_10
  | 11,_=>exact tx4_11
  | 12,_=>exact tx4_12
  | 13,_=>exact tx4_13
  | 14,_=>exact tx4_14
  | 15,_=>exact tx4_15
  | 16,_=>exact tx4_16
  | 17,_=>exact tx4_17
  | 18,_=>exact tx4_18
  | 19,_=>exact tx4_19
  | 20,_=>exact tx4_20
  | n+21,h=>omega
 | 5,_,_ =>
  match b,h3 with
  | 0,_=>exact tx5_0
  | 1,_=>exact tx5_1
  | 2,_=>exact tx5_2
  | 3,_=>exact tx5_3
  | 4,_=>exact tx5_4
  | 5,_=>exact tx5_5
  | 6,_=>exact tx5_6
  | 7,_=>exact tx5_7
  | 8,_=>exact tx5_8
  | 9,_=>exact tx5_9
  | 10,_=>exact tx5_10
  | 11,_=>exact tx5_11
  | 12,_=>exact tx5_12
  | 13,_=>exact tx5_13
  | 14,_=>exact tx5_14
  | 15,_=>exact tx5_15
  | 16,_=>exact tx5_16
  | 17,_=>exact tx5_17
  | 18,_=>exact tx5_18
  | 19,_=>exact tx5_19
  | 20,_=>exact tx5_20
  | n+21,h=>omega
 | 6,_,_ =>
  match b,h3 with
  | 0,_=>exact tx6_0
  | 1,_=>exact tx6_1
  | 2,_=>exact tx6_2
  | 3,_=>exact tx6_3
  | 4,_=>exact tx6_4
  | 5,_=>exact tx6_5
  | 6,_=>exact tx6_6
  | 7,_=>exact tx6_7
  | 8,_=>exact tx6_8
  | 9,_=>exact tx6_9
  | 10,_=>exact tx6_10
  | 11,_=>exact tx6_11
  | 12,_=>exact tx6_12
  | 13,_=>exact tx6_13
  | 14,_=>exact tx6_14
  | 15,_=>exact tx6_15
  | 16,_=>exact tx6_16
  | 17,_=>exact tx6_17
  | 18,_=>exact tx6_18
  | 19,_=>exact tx6_19
  | 20,_=>exact tx6_20
  | n+21,h=>omega
 | 7,_,_ =>
  match b,h3 with
  | 0,_=>exact tx7_0
  | 1,_=>exact tx7_1
  | 2,_=>exact tx7_2
  | 3,_=>exact tx7_3
  | 4,_=>exact tx7_4
  | 5,_=>exact tx7_5
  | 6,_=>exact tx7_6
  | 7,_=>exact tx7_7
  | 8,_=>exact tx7_8
  | 9,_=>exact tx7_9
  | 10,_=>exact tx7_10
  | 11,_=>exact tx7_11
  | 12,_=>exact tx7_12
  | 13,_=>exact tx7_13
  | 14,_=>exact tx7_14
  | 15,_=>exact tx7_15
  | 16,_=>exact tx7_16
  | 17,_=>exact tx7_17
  | 18,_=>exact tx7_18
  | 19,_=>exact tx7_19
  | 20,_=>exact tx7_20
  | n+21,h=>omega
 | 8,_,_ =>
  match b,h3 with
  | 0,_=>exact tx8_0
  | 1,_=>exact tx8_1
  | 2,_=>exact tx8_2
  | 3,_=>exact tx8_3
  | 4,_=>exact tx8_4
  | 5,_=>exact tx8_5
  | 6,_=>exact tx8_6
  | 7,_=>exact tx8_7
  | 8,_=>exact tx8_8
  | 9,_=>exact tx8_9
  | 10,_=>exact tx8_10
  | 11,_=>exact tx8_11
  | 12,_=>exact tx8_12
  | 13,_=>exact tx8_13
  | 14,_=>exact tx8_14
  | 15,_=>exact tx8_15
  | 16,_=>exact tx8_16
  | 17,_=>exact tx8_17
  | 18,_=>exact tx8_18
  | 19,_=>exact tx8_19
  | 20,_=>exact tx8_20
  | n+21,h=>omega
 | 9,_,_ =>
  match b,h3 with
  | 0,_=>exact tx9_0
  | 1,_=>exact tx9_1
  | 2,_=>exact tx9_2
  | 3,_=>exact tx9_3
  | 4,_=>exact tx9_4
  | 5,_=>exact tx9_5
  | 6,_=>exact tx9_6
  | 7,_=>exact tx9_7
  | 8,_=>exact tx9_8
  | 9,_=>exact tx9_9
  | 10,_=>exact tx9_10
  | 11,_=>exact tx9_11
  | 12,_=>exact tx9_12
  | 13,_=>exact tx9_13
  | 14,_=>exact tx9_14
  | 15,_=>exact tx9_15
  | 16,_=>exact tx9_16
  | 17,_=>exact tx9_17
  | 18,_=>exact tx9_18
  | 19,_=>exact tx9_19
  | 20,_=>exact tx9_20
  | n+21,h=>omega
def numB (s:ByteArray):Option (Nat × Nat):=((List.range 9).flatMap fun a=>(List.range 21).map fun b=>(a+1,b)).find? fun p=>txB p.1 p.2==s.data.toList
def okE (s:ByteArray):Bool:=(numB s).isSome
def cfE (s:ByteArray):Conf.Cf:=((numB s).map fun p=>{ Conf.dflt with limit:=(p.1:Int),queue:=(p.2:Int) }).getD Conf.dflt
def parE:Eng.Spec
 | [x,.s (.str s)]=>Conf.asConf x fun c=>.ite none (decide (c=Conf.dflt)&&okE s) (.ret (.tup [Conf.confV (cfE s),Eng.iv 0,Eng.iv 0])) .fail
 | _=>.fail
theorem parE_ok:SpecOk Tryz.prog 22 parE:=parY_ok.of_eval fun args v hv=>by
 unfold parE at hv
 split at hv
 ·rename_i x s
  obtain ⟨c,rfl,h2⟩:=Conf.asConf_some hv
  obtain ⟨hb,h3⟩:=ite_some h2
  obtain rfl:=Option.some.inj h3
  rw [Bool.and_eq_true] at hb
  obtain rfl:=of_decide_eq_true hb.1
  have ho:=hb.2
  unfold okE at ho
  unfold cfE
  cases hf:numB s with
  | none=>rw [hf] at ho;cases ho
  | some p =>
   unfold numB at hf
   have hm:=List.mem_of_find?_eq_some hf
   have he:(txB p.1 p.2==s.data.toList)=true:=List.find?_some (p:=fun p:Nat × Nat=>txB p.1 p.2==s.data.toList) hf
   have e:txB p.1 p.2=s.data.toList:=by simpa using he
   obtain ⟨a,ha,hm2⟩:=List.mem_flatMap.1 hm
   obtain ⟨b,hb2,rfl⟩:=List.mem_map.1 hm2
   have:=tx_all (a+1) b (by omega) (by have:=List.mem_range.1 ha;omega) (by have:=List.mem_range.1 hb2;omega)
   unfold isTx at this
   rw [e] at this
   exact this
 ·cases hv
end Go.Proofs.YtlklfiolodcbfaaGreatDoor.Txt
