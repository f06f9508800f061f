import Derived.Test.YtlklfiolodcbfaaGreatDoorRows
import Derived.OpenShut
import Derived.LaidMore
import Derived.Lay
import Derived.Lib.LaidTab
import Derived.Stop.LaidErr
import Derived.Shelf.Vars
import Derived.Test.YtlklfiolodcbfaaGreatDoorHI
import Derived.Test.YtlklfiolodcbfaaGreatDoorHM
namespace Go.Proofs.YtlklfiolodcbfaaGreatDoor.Law.Gl
open Go.Joins Go.ChangeShapes Go.WideShapes Go.ChangeAt Go.RowKit Go.Deep
set_option linter.unusedVariables false
variable {H:Type} {enc:TypeId × Value->H}
theorem of_change_and {a:Assume} {C:Checked} {os:Os} {f:FuncId} {fn:Func} {s:ChangeSpec} {conds:List PathCond} {apart fresh handsOn again:Bool} {X:World->Array Value->Prop}
  (hX:∀ (w w':World) (args:Array Value),w.heap=w'.heap->X w args->X w' args)
  (own:ownKnob C.prog.godebug=none) (started:os.Started) (noInit:C.prog.inits.idxOf? f=none) (hfn:C.prog.funcs[f]?=some fn)
  (witness:∃ (w:World) (tape:Tape) (i:Input),w.os=os/\(w.forCall tape i).Shaped C.prog/\i.vars=[]/\Input.okWide C.prog (w.forCall tape i) .any w.heap.size f i /\
   ((s.pre enc C.prog fn conds apart (w.forCall tape i).memory i.args/\X (w.forCall tape i).memory i.args)/\sizedMet enc C.prog fn (OpenSpec.ofChange s) apart (w.forCall tape i).memory i.args)/\a.holds C.prog (lone (Frame.enter C.prog f i.args .normal) [] (w.forCall tape i)))
  (contract:∀ (W:World) (base:Nat) (args:Array Value) (ds gs:List (DataW H)) (before:List MemPlace),
   (∀ (j:Nat) t v,fn.params[j]?=some t->args[j]?=some v->Value.okWide C.prog W .any base t v) ->
   DataW.Whole enc C.prog fn.params.toList s.vars apart W args.toList ds gs before->X W args->W.ShapedOpen C.prog ->
   Calls C.prog f args W fun e W'=>∃ v,e=.returned v/\s.post enc C.prog fn apart fresh handsOn again W args v W') :
  ReturnsInHanded a C os f .any (fun w args=>(s.pre enc C.prog fn conds apart w args/\X w args)/\sizedMet enc C.prog fn (OpenSpec.ofChange s) apart w args) (s.post enc C.prog fn apart fresh handsOn again):=by
 refine returnsInHanded_of_calls own started noInit witness ?_
 intro w tape i _ hsh _ hok hpre _
 obtain ⟨_,_,_,fn',hfn',_,_,_,_,hval⟩:=hok
 obtain rfl:fn'=fn:=Option.some.inj (hfn'.symm.trans hfn)
 obtain ⟨⟨⟨ds,gs,before,hw,_⟩,hx⟩,_⟩:=hpre
 have hw':=DataW.Whole.of_heap (w':=w.forCall tape i) (by rfl) hw
 refine (contract (w.forCall tape i) w.heap.size i.args ds gs before hval hw' (hX _ _ _ (by rfl) hx) hsh).mono fun e W' ⟨v,he,hp⟩ => ?_
 subst he
 exact ChangeSpec.post_blind hp
theorem glob {W:World} {p:Prop} (hL:p) (hsh:W.ShapedOpen Tryz.prog):Eng.Glob W:=by
 refine ⟨?_,?_⟩
 ·obtain ⟨cs,hh,-⟩:=hsh.1 4 ((((begin Tryz.prog (fun _ _=>0) default).world.heap[4]?).bind Obj.row?).getD (#[],0)).1 ((((begin Tryz.prog (fun _ _=>0) default).world.heap[4]?).bind Obj.row?).getD (#[],0)).2 (of_decide_eq_true (by kernel_rfl)) (by kernel_rfl)
  have:=(Array.getElem?_eq_some_iff.1 hh).1
  show 5<=_
  omega
 ·exact cell_of_shapedOpen_int (P:=Tryz.prog) (g:=0) (t:=3) (zero:=#[.int .i64 0]) hsh (of_decide_eq_true (by kernel_rfl)) (by kernel_rfl) rfl (by kernel_rfl) (by kernel_rfl) Tryz.underlying3
end Go.Proofs.YtlklfiolodcbfaaGreatDoor.Law.Gl
namespace Go.Proofs.YtlklfiolodcbfaaGreatDoor.Sys
open Go.Eng Go.RowKit Mil Rin
set_option linter.unusedVariables false
set_option linter.unusedSimpArgs false
set_option maxRecDepth 100000
noncomputable def Ls:Cfg:=⟨Tryz.prog,lookG [(23,.val Conf.dfltS),(22,.val Txt.parE),(14,.obj neS)],[wideK],0⟩
theorem Ls_ok:Ls.Ok:=Cfg.ok ⟨Conf.refdflt_ok,Txt.parE_ok,neS_ok,trivial⟩ eWide
noncomputable def staE:Eng.Obj:=execO Ls noLoops 8
theorem staE_ok:ObjOk Tryz.prog 8 staE:=execO_plain Ls_ok mixed Tryz.func8 (by kernel_rfl) (by kernel_rfl)
noncomputable def Dx:Cfg:=⟨Tryz.prog,lookG [(24,.obj madE),(25,.val Evt.mayS),(27,.obj arS)],[],0⟩
theorem Dx_ok:Dx.Ok:=Cfg.ok ⟨madE_ok,Evt.may_ok,arS_ok,trivial⟩ trivial
noncomputable def doX:Eng.Obj:=execO Dx noLoops 10
theorem doX_ok:ObjOk Tryz.prog 10 doX:=execO_plain Dx_ok mixed Tryz.func10 (by kernel_rfl) (by kernel_rfl)
noncomputable def Fx:Cfg:=⟨Tryz.prog,lookG [(12,.val yesR),(9,.val Txt.decS),(8,.obj staE),(10,.obj doX),(11,.obj seS),(13,.obj reqS)],[wideK],0⟩
theorem Fx_ok:Fx.Ok:=Cfg.ok ⟨told24_ok,Txt.decS_ok,staE_ok,doX_ok,seS_ok,reqS_ok,trivial⟩ eWide
noncomputable def filE:Eng.Spec:=execS Fx noLoops 3
theorem filE_ok:SpecOk Tryz.prog 3 filE:=execS_plain Fx_ok mixed Tryz.func3 (by kernel_rfl) (by kernel_rfl)
end Go.Proofs.YtlklfiolodcbfaaGreatDoor.Sys
namespace Go.Proofs.YtlklfiolodcbfaaGreatDoor.Sys
open Go.Eng Go.RowKit Mil Rin
set_option linter.unusedVariables false
set_option linter.unusedSimpArgs false
set_option maxRecDepth 100000
def tQue:ByteArray:=⟨#[10,113,117,101,117,101,58,32]⟩
def fiTx (L D:Int):ByteArray:=tLim++Txt.itoaB L++tQue++Txt.itoaB D
def fiCf (L D:Int):Conf.Cf:=Txt.cfE (fiTx L D)
noncomputable def fiA (q:Bool) (L D K:Int):SysS:=bif q then { arD K (s0 (fiCf L D)) with qu:=some ((arD K (s0 (fiCf L D))).qu.getD 0) } else { arD K (s0 (fiCf L D)) with qu:=none }
def fiB (e:Bool) (L K:Int):Int:=bif e then 0 else mn L K
def fiWt (e:Bool) (L D K:Int):Int:=mn D (IntKind.wrap .i64 (K - fiB e L K))
noncomputable def fiG (q e:Bool) (L D K:Int):Bool:=bif bif (fiA q L D K).e2==fiB e L K then (fiA q L D K).e1==fiWt e L D K else false then (fiA q L D K).e5==IntKind.wrap .i64 (IntKind.wrap .i64 (K - fiB e L K) - fiWt e L D K) else false
noncomputable def fiCo (q e:Bool) (L D K:Int):List (Bool × Bool):=[(false,false),(false,false),(false,false),(in0 L,true),(big (tLim.size+(Txt.itoaB L).size),false),(big ((tLim++Txt.itoaB L).size+tQue.size),false),(in0 D,true),(big ((tLim++Txt.itoaB L++tQue).size+(Txt.itoaB D).size),false),(decide (Conf.dflt=Conf.dflt)&&Txt.okE (fiTx L D),true),(false,false),(Conf.mayB (fiCf L D),true),(false,false),(!Evt.mayE 2 K noT,false),(false,false),(true,true),(Dly.pB (okAr K ⟨s0 (fiCf L D),0⟩),true),((arD K (s0 (fiCf L D))).qu.isSome,q),(false,false),(Lif.okN (fiA q L D K).ln (fiA q L D K).lp,true),(D==0,e),(fiG q e L D K,true),(decide ((fiA q L D K).nr=(fiA q L D K).rq.length/\(fiA q L D K).rq.length<=100000),true)]
theorem fil_w (q e:Bool) (l d n:Int):T.path [false,false,false,true,false,false,true,false,true,false,true,false,false,false,true,true,q,false,true,e,true,true] (T.anon (filE [Eng.iv l,Eng.iv d,Eng.iv n]))=some (fiCo q e (ofU1 l 9) (ofU d 21) (ofU1 n 60),Eng.bv (bif fiG q e (ofU1 l 9) (ofU d 21) (ofU1 n 60) then (((fiA q (ofU1 l 9) (ofU d 21) (ofU1 n 60)).rq.length:Nat):Int)==ofU1 n 60 else false)):=by cases q<;>cases e<;>kernel_rfl
theorem fi_all:((List.range 9).all fun (a:Nat)=>(List.range 21).all fun (b:Nat)=>decide (fiCf (((a+1:Nat)):Int) (b:Int)={ Conf.dflt with limit:=((a+1:Nat):Int),queue:=(b:Int) })&&Txt.okE (fiTx ((a+1:Nat):Int) (b:Int))&&true&&decide ((Txt.itoaB ((a+1:Nat):Int)).size<=20)&&decide ((Txt.itoaB (b:Int)).size<=20))=true:=by kernel_rfl
theorem fi_cf {L D:Int} (l0:1<=L) (l1:L<=9) (d0:0<=D) (d1:D<21):fiCf L D={ Conf.dflt with limit:=L,queue:=D }/\Txt.okE (fiTx L D)=true/\True/\(Txt.itoaB L).size<=20/\(Txt.itoaB D).size<=20:=by
 obtain ⟨a,rfl⟩:∃ a:Nat,L=((a+1:Nat):Int):=⟨(L - 1).toNat,by omega⟩
 obtain ⟨b,rfl⟩:∃ b:Nat,D=(b:Int):=⟨D.toNat,by omega⟩
 have h1:=List.all_eq_true.1 fi_all a (List.mem_range.2 (by omega))
 have h2:=List.all_eq_true.1 h1 b (List.mem_range.2 (by omega))
 simp only [Bool.and_eq_true,decide_eq_true_eq,beq_iff_eq] at h2
 exact ⟨h2.1.1.1.1,h2.1.1.1.2,trivial,h2.1.2,h2.2⟩
theorem fi_may {L D:Int} (l0:1<=L) (l1:L<=9) (d0:0<=D) (d1:D<21):Conf.mayB { Conf.dflt with limit:=L,queue:=D }=true:=by
 obtain ⟨a,rfl⟩:∃ a:Nat,L=((a+1:Nat):Int):=⟨(L - 1).toNat,by omega⟩
 obtain ⟨b,rfl⟩:∃ b:Nat,D=(b:Int):=⟨D.toNat,by omega⟩
 have h:((List.range 9).all fun (a:Nat)=>(List.range 21).all fun (b:Nat)=>Conf.mayB { Conf.dflt with limit:=((a+1:Nat):Int),queue:=(b:Int) })=true:=by kernel_rfl
 exact List.all_eq_true.1 (List.all_eq_true.1 h a (List.mem_range.2 (by omega))) b (List.mem_range.2 (by omega))
theorem fills_yes (l d n:Int):(filE [Eng.iv l,Eng.iv d,Eng.iv n]).yes:=by
 obtain ⟨l0,l1⟩:=ofU1_in (x:=l) (m:=9) (by decide) (by decide)
 obtain ⟨d0,d1⟩:=ofU_in (x:=d) (m:=21) (by decide) (by decide)
 obtain ⟨k0,k1⟩:=ofU1_in (x:=n) (m:=60) (by decide) (by decide)
 have W:=fun q e=>fil_w q e l d n
 revert W l0 l1 d0 d1 k0 k1
 generalize ofU1 l 9=L
 generalize ofU d 21=D
 generalize ofU1 n 60=K
 intro l0 l1 d0 d1 k0 k1 W
 obtain ⟨c1,c2,c3,c4,c5⟩:=fi_cf l0 l1 d0 d1
 have hm:Conf.mayB (fiCf L D)=true:=by
  rw [c1]
  exact fi_may l0 l1 d0 d1
 have hS:=s0_ok hm (by rw [c1];rfl)
 have ok:okAr K ⟨s0 (fiCf L D),0⟩:=⟨hS,Int.le_refl 0,by show (0:Int)<=K;omega,by show K<=1000;omega,by show ((0:Nat):Int)+(K - 0)<=90000;omega⟩
 have hlim:(fiCf L D).limit=L:=by rw [c1]
 have hque:(fiCf L D).queue=D:=by rw [c1]
 obtain ⟨⟨f,g⟩,i⟩:=FilE.all (c:=fiCf L D) (id:=0) (z:=0) (by rw [c1];exact (by decide:(0:Int)<1)) (by rw [hlim];omega) (by rw [hque];exact d0) ok (filE0 hm (by rw [c1];rfl))
 have len:=arD_len ok
 have sum:=f.sum
 have e2l:=f.e2l
 have e1d:=f.e1d
 have e5:=f.e5
 have z0:=f.z0
 have n1:=i.e1
 have n2:=i.e2
 have n5:=i.e5
 have nr:=i.nr
 have lb:=i.lb
 have hfr:=i.free
 rw [hlim] at e2l g
 rw [hque] at e1d e5 z0
 have hA:∀ q,(fiA q L D K).e1=(arD K (s0 (fiCf L D))).e1/\(fiA q L D K).e2=(arD K (s0 (fiCf L D))).e2/\(fiA q L D K).e5=(arD K (s0 (fiCf L D))).e5/\(fiA q L D K).nr=(arD K (s0 (fiCf L D))).nr/\(fiA q L D K).rq=(arD K (s0 (fiCf L D))).rq/\(fiA q L D K).ln=(arD K (s0 (fiCf L D))).ln/\(fiA q L D K).lp=(arD K (s0 (fiCf L D))).lp:=fun q=>by cases q<;>exact ⟨rfl,rfl,rfl,rfl,rfl,rfl,rfl⟩
 have h0:(s0 (fiCf L D)).rq.length=0:=rfl
 have hG:∀ q e,(D==0)=e->fiG q e L D K=true:=fun q e he=>by
  obtain ⟨a1,a2,a5,-,-,-,-⟩:=hA q
  unfold fiG
  rw [a1,a2,a5]
  have b2:(arD K (s0 (fiCf L D))).e2=fiB e L K:=by
   unfold fiB mn
   cases e with
   | true =>
    have:D=0:=by simpa using he
    exact z0 this
   | false =>
    have:D≠0:=by simpa using he
    show _=if K<L then K else L
    split
    ·by_cases q1:0<(arD K (s0 (fiCf L D))).e1
     ·have:=g q1;omega
     ·by_cases q2:0<(arD K (s0 (fiCf L D))).e5
      ·have:=e5 q2;omega
      ·omega
    ·by_cases q1:0<(arD K (s0 (fiCf L D))).e1
     ·have:=g q1;omega
     ·by_cases q2:0<(arD K (s0 (fiCf L D))).e5
      ·have:=e5 q2;omega
      ·omega
  have w1:IntKind.wrap .i64 (K - fiB e L K)=K - fiB e L K:=wrap64_in (by omega) (by omega)
  have b1:(arD K (s0 (fiCf L D))).e1=fiWt e L D K:=by
   unfold fiWt mn
   rw [w1,<- b2]
   split
   ·by_cases q2:0<(arD K (s0 (fiCf L D))).e5
    ·have:=e5 q2;omega
    ·omega
   ·by_cases q2:0<(arD K (s0 (fiCf L D))).e5
    ·exact e5 q2
    ·omega
  have w2:IntKind.wrap .i64 (K - fiB e L K - fiWt e L D K)=K - fiB e L K - fiWt e L D K:=wrap64_in (by omega) (by omega)
  rw [w1,w2,b1,b2]
  have:(arD K (s0 (fiCf L D))).e5=K - fiB e L K - fiWt e L D K:=by omega
  rw [this]
  simp
 obtain ⟨q,hq⟩:∃ q,(arD K (s0 (fiCf L D))).qu.isSome=q:=⟨_,rfl⟩
 obtain ⟨e,he⟩:∃ e,(D==0)=e:=⟨_,rfl⟩
 obtain ⟨-,-,-,a4,a5,a6,a7⟩:=hA q
 have s1:tLim.size=7:=rfl
 have s2:tQue.size=8:=rfl
 have z1:(tLim++Txt.itoaB L).size=tLim.size+(Txt.itoaB L).size:=ByteArray.size_append
 have z2:(tLim++Txt.itoaB L++tQue).size=(tLim++Txt.itoaB L).size+tQue.size:=ByteArray.size_append
 have run:=T.path_eval (W q e) ⟨rfl,rfl,rfl,by unfold in0;rw [decide_eq_true (show 0<=L by omega),decide_eq_true (show L<=9223372036854775807 by omega)];rfl,big_no (by omega),big_no (by omega),by unfold in0;rw [decide_eq_true d0,decide_eq_true (show D<=9223372036854775807 by omega)];rfl,big_no (by omega),by rw [c2,decide_eq_true rfl];rfl,rfl,hm,rfl,?_,rfl,rfl,Dly.pB_is ok,hq,rfl,?_,he,hG q e he,?_,trivial⟩
 ·rw [hG q e he,a5,len,h0] at run
  refine Or.inr ?_
  rw [<- T.eval_anon (t:=filE _)]
  rw [run]
  show some (V.s (.bool (((0:Nat):Int)+K==K)))=_
  rw [show ((0:Nat):Int)+K=K by omega,beq_self_eq_true]
 ·have:Evt.mayE 2 K noT=true:=by
   unfold Evt.mayE
   rw [if_neg (by decide)]
   show (Evt.noS noT&&Evt.wit 2 K)=true
   unfold Evt.wit
   simp [Evt.noS,noT]
   omega
  rw [this];rfl
 ·rw [a6,a7,i.ln];exact Lif.okN_of hfr.n
 ·rw [a4,a5];exact decide_eq_true ⟨nr,by omega⟩
theorem fills_walk (l:Int) (wl:(Lit.int .i64 l).wf=true) (d:Int) (wd:(Lit.int .i64 d).wf=true) (n:Int) (wn:(Lit.int .i64 n).wf=true) (w:World) (hG:Glob w) :
  Calls Tryz.prog 3 #[.int .i64 l,.int .i64 d,.int .i64 n] w fun e w'=>e=.returned (.bool true)/\Below w.heap.size w w' :=
 Law.law_rows (args:=[Eng.iv l,Eng.iv d,Eng.iv n]) (xs:=[.int .i64 l,.int .i64 d,.int .i64 n]) filE_ok rfl (fills_yes l d n) w ⟨rfl,rfl,rfl,trivial⟩ hG
end Go.Proofs.YtlklfiolodcbfaaGreatDoor.Sys
