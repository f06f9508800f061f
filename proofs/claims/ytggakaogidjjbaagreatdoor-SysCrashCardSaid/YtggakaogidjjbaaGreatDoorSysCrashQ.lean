import Derived.Test.YtggakaogidjjbaaGreatDoorRows
import Derived.OpenShut
import Derived.LaidMore
import Derived.Lay
import Derived.Lib.LaidTab
import Derived.Stop.LaidErr
import Derived.Shelf.Vars
import Derived.Test.YtggakaogidjjbaaGreatDoorHI
import Derived.Test.YtggakaogidjjbaaGreatDoorHN
namespace Go.Proofs.YtggakaogidjjbaaGreatDoor.Law.Gl
open Go.Joins Go.ChangeShapes Go.WideShapes Go.ChangeAt Go.RowKit Go.Deep
set_option linter.unusedVariables false
variable {H:Type} {enc:TypeId × Value->H}
theorem of_change_and {a:Assume} {C:Checked} {os:Os} {f:FuncId} {fn:Func} {s:ChangeSpec} {conds:List PathCond} {apart fresh handsOn again:Bool} {X:World->Array Value->Prop}
  (hX:∀ (w w':World) (args:Array Value),w.heap=w'.heap->X w args->X w' args)
  (own:ownKnob C.prog.godebug=none) (started:os.Started) (noInit:C.prog.inits.idxOf? f=none) (hfn:C.prog.funcs[f]?=some fn)
  (witness:∃ (w:World) (tape:Tape) (i:Input),w.os=os/\(w.forCall tape i).Shaped C.prog/\i.vars=[]/\Input.okWide C.prog (w.forCall tape i) .any w.heap.size f i /\
   ((s.pre enc C.prog fn conds apart (w.forCall tape i).memory i.args/\X (w.forCall tape i).memory i.args)/\sizedMet enc C.prog fn (OpenSpec.ofChange s) apart (w.forCall tape i).memory i.args)/\a.holds C.prog (lone (Frame.enter C.prog f i.args .normal) [] (w.forCall tape i)))
  (contract:∀ (W:World) (base:Nat) (args:Array Value) (ds gs:List (DataW H)) (before:List MemPlace),
   (∀ (j:Nat) t v,fn.params[j]?=some t->args[j]?=some v->Value.okWide C.prog W .any base t v) ->
   DataW.Whole enc C.prog fn.params.toList s.vars apart W args.toList ds gs before->X W args->W.ShapedOpen C.prog ->
   Calls C.prog f args W fun e W'=>∃ v,e=.returned v/\s.post enc C.prog fn apart fresh handsOn again W args v W') :
  ReturnsInHanded a C os f .any (fun w args=>(s.pre enc C.prog fn conds apart w args/\X w args)/\sizedMet enc C.prog fn (OpenSpec.ofChange s) apart w args) (s.post enc C.prog fn apart fresh handsOn again):=by
 refine returnsInHanded_of_calls own started noInit witness ?_
 intro w tape i _ hsh _ hok hpre _
 obtain ⟨_,_,_,fn',hfn',_,_,_,_,hval⟩:=hok
 obtain rfl:fn'=fn:=Option.some.inj (hfn'.symm.trans hfn)
 obtain ⟨⟨⟨ds,gs,before,hw,_⟩,hx⟩,_⟩:=hpre
 have hw':=DataW.Whole.of_heap (w':=w.forCall tape i) (by rfl) hw
 refine (contract (w.forCall tape i) w.heap.size i.args ds gs before hval hw' (hX _ _ _ (by rfl) hx) hsh).mono fun e W' ⟨v,he,hp⟩ => ?_
 subst he
 exact ChangeSpec.post_blind hp
theorem glob {W:World} {p:Prop} (hL:p) (hsh:W.ShapedOpen Tryz.prog):Eng.Glob W:=by
 refine ⟨?_,?_⟩
 ·obtain ⟨cs,hh,-⟩:=hsh.1 4 ((((begin Tryz.prog (fun _ _=>0) default).world.heap[4]?).bind Obj.row?).getD (#[],0)).1 ((((begin Tryz.prog (fun _ _=>0) default).world.heap[4]?).bind Obj.row?).getD (#[],0)).2 (of_decide_eq_true (by kernel_rfl)) (by kernel_rfl)
  have:=(Array.getElem?_eq_some_iff.1 hh).1
  show 5<=_
  omega
 ·exact cell_of_shapedOpen_int (P:=Tryz.prog) (g:=0) (t:=3) (zero:=#[.int .i64 0]) hsh (of_decide_eq_true (by kernel_rfl)) (by kernel_rfl) rfl (by kernel_rfl) (by kernel_rfl) Tryz.underlying3
end Go.Proofs.YtggakaogidjjbaaGreatDoor.Law.Gl
namespace Go.Proofs.YtggakaogidjjbaaGreatDoor.Sys
open Go.Eng Go.RowKit Mil Rin
set_option linter.unusedVariables false
set_option linter.unusedSimpArgs false
set_option maxRecDepth 100000
noncomputable def Lc:Cfg:=⟨Tryz.prog,lookG [(14,.val Conf.dfltS),(13,.val Txt.parUE),(15,.obj neS)],[wideK],0⟩
theorem Lc_ok:Lc.Ok:=Cfg.ok ⟨Conf.refdflt_ok,Txt.parUE_ok,neS_ok,trivial⟩ eWide
noncomputable def staC:Eng.Obj:=execO Lc noLoops 6
theorem staC_ok:ObjOk Tryz.prog 6 staC:=execO_plain Lc_ok mixed Tryz.func6 (by kernel_rfl) (by kernel_rfl)
noncomputable def Dc:Cfg:=⟨Tryz.prog,lookG [(16,.obj madE),(17,.val Evt.mayS),(19,.obj arS),(21,.obj crS)],[],0⟩
theorem Dc_ok:Dc.Ok:=Cfg.ok ⟨madE_ok,Evt.may_ok,arS_ok,crS_ok,trivial⟩ trivial
noncomputable def doC:Eng.Obj:=execO Dc noLoops 8
theorem doC_ok:ObjOk Tryz.prog 8 doC:=execO_plain Dc_ok mixed Tryz.func8 (by kernel_rfl) (by kernel_rfl)
noncomputable def Fc:Cfg:=⟨Tryz.prog,lookG [(10,.val yesR),(7,.val Txt.decS),(6,.obj staC),(8,.obj doC),(9,.obj seS),(11,.obj reqS)],[wideK],0⟩
theorem Fc_ok:Fc.Ok:=Cfg.ok ⟨told24_ok,Txt.decS_ok,staC_ok,doC_ok,seS_ok,reqS_ok,trivial⟩ eWide
end Go.Proofs.YtggakaogidjjbaaGreatDoor.Sys
namespace Go.Proofs.YtggakaogidjjbaaGreatDoor.Sys
open Go.Eng Go.RowKit Mil Rin
set_option linter.unusedVariables false
set_option linter.unusedSimpArgs false
set_option maxRecDepth 100000
noncomputable def lpCl:Code:=loopAt Tryz.prog 4 0
structure PCl where (p e f:Int) (v0 v1 v2 v3 v4 v5 v6 v7 v8 v9 v10:Int) (va vx vo:Bool) (nv:Nat) (y0 y1 y2 y3:Int) (u0 u1 u2 u3 u4 u5 u6 u7 u8 u9 u10:Int) (ua ux uo:Bool) (nu:Nat) (lv lu r:List R4) (nr:Nat)
structure ACl where (d i:Int)
abbrev SCl:List (Nat × Src):=[(199,.same),(263,.same),(455,.same),(711,.same),(775,.same),(903,.same)]
def vsCl (p:PCl) (a:ACl):List V:=[iv p.p,.ptr 263 0,.ptr 455 0,iv p.e,iv p.f,.ptr 775 0,.sub 903 4 0 p.nr,iv a.d,iv a.i]
def bsCl (p:PCl) (a:ACl):List Blk:=[.lst true 37 [.int .i64,.int .i64,.int .i64,.int .i64] p.lv,.cells 32 [iv p.v0,iv p.v1,bv p.va,bv p.vx,.sub 199 4 0 p.nv,iv p.v2,iv p.v3,iv p.v4,iv p.v5,iv p.v6,iv p.v7,iv p.v8,iv p.v9,iv p.v10,bv p.vo],.cells 37 [iv p.y0,iv p.y1,iv p.y2,iv p.y3],.lst true 37 [.int .i64,.int .i64,.int .i64,.int .i64] p.lu,.cells 32 [iv p.u0,iv p.u1,bv p.ua,bv p.ux,.sub 711 4 0 p.nu,iv p.u2,iv p.u3,iv p.u4,iv p.u5,iv p.u6,iv p.u7,iv p.u8,iv p.u9,iv p.u10,bv p.uo],.lst true 41 [.int .i64,.int .i64,.int .i64,.int .i64] p.r]
noncomputable def FCl (p:PCl) (a:ACl):St:=mkSt [9,13,15,16,17,18,19,20,21] (keysR SCl) 5000 155 (vsCl p a) (bsCl p a)
noncomputable def rdCl (p:PCl) (a:ACl):T (Ex × St):=T.anon (roundN Fc noLoops lpCl [9,13,15,16,17,18,19,20,21] SCl 5000 5000 (mkSt [9,13,15,16,17,18,19,20,21] (keysR SCl) 5000 155 (vsCl p a) (bsCl p a)))
def decCl_v0:V->Option ((Int))
 | .s (.int .i64 p)=>some (p)
 | _=>none
theorem decCl_v0_ok (b:V) (x0:(Int)) (h:decCl_v0 b=some x0):b=iv (x0):=by
 unfold decCl_v0 at h
 split at h
 ·cases h
  rfl
 ·cases h
def decCl_v1:V->Option (Unit)
 | .ptr 263 0=>some ()
 | _=>none
theorem decCl_v1_ok (b:V) (x1:Unit) (h:decCl_v1 b=some x1):b=.ptr 263 0:=by
 unfold decCl_v1 at h
 split at h
 ·cases h
  rfl
 ·cases h
def decCl_v2:V->Option (Unit)
 | .ptr 455 0=>some ()
 | _=>none
theorem decCl_v2_ok (b:V) (x2:Unit) (h:decCl_v2 b=some x2):b=.ptr 455 0:=by
 unfold decCl_v2 at h
 split at h
 ·cases h
  rfl
 ·cases h
def decCl_v3:V->Option ((Int))
 | .s (.int .i64 e)=>some (e)
 | _=>none
theorem decCl_v3_ok (b:V) (x3:(Int)) (h:decCl_v3 b=some x3):b=iv (x3):=by
 unfold decCl_v3 at h
 split at h
 ·cases h
  rfl
 ·cases h
def decCl_v4:V->Option ((Int))
 | .s (.int .i64 f)=>some (f)
 | _=>none
theorem decCl_v4_ok (b:V) (x4:(Int)) (h:decCl_v4 b=some x4):b=iv (x4):=by
 unfold decCl_v4 at h
 split at h
 ·cases h
  rfl
 ·cases h
def decCl_v5:V->Option (Unit)
 | .ptr 775 0=>some ()
 | _=>none
theorem decCl_v5_ok (b:V) (x5:Unit) (h:decCl_v5 b=some x5):b=.ptr 775 0:=by
 unfold decCl_v5 at h
 split at h
 ·cases h
  rfl
 ·cases h
def decCl_v6:V->Option ((Nat))
 | .sub 903 4 0 nr=>some (nr)
 | _=>none
theorem decCl_v6_ok (b:V) (x6:(Nat)) (h:decCl_v6 b=some x6):b=.sub 903 4 0 (x6):=by
 unfold decCl_v6 at h
 split at h
 ·cases h
  rfl
 ·cases h
def decCl_v7:V->Option ((Int))
 | .s (.int .i64 d)=>some (d)
 | _=>none
theorem decCl_v7_ok (b:V) (x7:(Int)) (h:decCl_v7 b=some x7):b=iv (x7):=by
 unfold decCl_v7 at h
 split at h
 ·cases h
  rfl
 ·cases h
def decCl_v8:V->Option ((Int))
 | .s (.int .i64 i)=>some (i)
 | _=>none
theorem decCl_v8_ok (b:V) (x8:(Int)) (h:decCl_v8 b=some x8):b=iv (x8):=by
 unfold decCl_v8 at h
 split at h
 ·cases h
  rfl
 ·cases h
def decCl_b0:Blk->Option ((List R4))
 | .lst true tt0 [.int .i64,.int .i64,.int .i64,.int .i64] lv=>if tt0=37 then some (lv) else none
 | _=>none
theorem decCl_b0_ok (b:Blk) (y0:(List R4)) (h:decCl_b0 b=some y0):b=.lst true 37 [.int .i64,.int .i64,.int .i64,.int .i64] (y0):=by
 unfold decCl_b0 at h
 split at h
 ·obtain ⟨e0,h⟩:=ite_some0 h
  subst e0
  cases h
  rfl
 ·cases h
def decCl_b1:Blk->Option ((Int) × (Int) × (Bool) × (Bool) × (Nat) × (Int) × (Int) × (Int) × (Int) × (Int) × (Int) × (Int) × (Int) × (Int) × (Bool))
 | .cells tt0 [.s (.int .i64 v0),.s (.int .i64 v1),.s (.bool va),.s (.bool vx),.sub 199 4 0 nv,.s (.int .i64 v2),.s (.int .i64 v3),.s (.int .i64 v4),.s (.int .i64 v5),.s (.int .i64 v6),.s (.int .i64 v7),.s (.int .i64 v8),.s (.int .i64 v9),.s (.int .i64 v10),.s (.bool vo)]=>if tt0=32 then some (v0,v1,va,vx,nv,v2,v3,v4,v5,v6,v7,v8,v9,v10,vo) else none
 | _=>none
theorem decCl_b1_ok (b:Blk) (y1:(Int) × (Int) × (Bool) × (Bool) × (Nat) × (Int) × (Int) × (Int) × (Int) × (Int) × (Int) × (Int) × (Int) × (Int) × (Bool)) (h:decCl_b1 b=some y1):b=.cells 32 [iv (y1.1),iv (y1.2.1),bv (y1.2.2.1),bv (y1.2.2.2.1),.sub 199 4 0 (y1.2.2.2.2.1),iv (y1.2.2.2.2.2.1),iv (y1.2.2.2.2.2.2.1),iv (y1.2.2.2.2.2.2.2.1),iv (y1.2.2.2.2.2.2.2.2.1),iv (y1.2.2.2.2.2.2.2.2.2.1),iv (y1.2.2.2.2.2.2.2.2.2.2.1),iv (y1.2.2.2.2.2.2.2.2.2.2.2.1),iv (y1.2.2.2.2.2.2.2.2.2.2.2.2.1),iv (y1.2.2.2.2.2.2.2.2.2.2.2.2.2.1),bv (y1.2.2.2.2.2.2.2.2.2.2.2.2.2.2)]:=by
 unfold decCl_b1 at h
 split at h
 ·obtain ⟨e0,h⟩:=ite_some0 h
  subst e0
  cases h
  rfl
 ·cases h
def decCl_b2:Blk->Option ((Int) × (Int) × (Int) × (Int))
 | .cells tt0 [.s (.int .i64 y0),.s (.int .i64 y1),.s (.int .i64 y2),.s (.int .i64 y3)]=>if tt0=37 then some (y0,y1,y2,y3) else none
 | _=>none
theorem decCl_b2_ok (b:Blk) (y2:(Int) × (Int) × (Int) × (Int)) (h:decCl_b2 b=some y2):b=.cells 37 [iv (y2.1),iv (y2.2.1),iv (y2.2.2.1),iv (y2.2.2.2)]:=by
 unfold decCl_b2 at h
 split at h
 ·obtain ⟨e0,h⟩:=ite_some0 h
  subst e0
  cases h
  rfl
 ·cases h
def decCl_b3:Blk->Option ((List R4))
 | .lst true tt0 [.int .i64,.int .i64,.int .i64,.int .i64] lu=>if tt0=37 then some (lu) else none
 | _=>none
theorem decCl_b3_ok (b:Blk) (y3:(List R4)) (h:decCl_b3 b=some y3):b=.lst true 37 [.int .i64,.int .i64,.int .i64,.int .i64] (y3):=by
 unfold decCl_b3 at h
 split at h
 ·obtain ⟨e0,h⟩:=ite_some0 h
  subst e0
  cases h
  rfl
 ·cases h
def decCl_b4:Blk->Option ((Int) × (Int) × (Bool) × (Bool) × (Nat) × (Int) × (Int) × (Int) × (Int) × (Int) × (Int) × (Int) × (Int) × (Int) × (Bool))
 | .cells tt0 [.s (.int .i64 u0),.s (.int .i64 u1),.s (.bool ua),.s (.bool ux),.sub 711 4 0 nu,.s (.int .i64 u2),.s (.int .i64 u3),.s (.int .i64 u4),.s (.int .i64 u5),.s (.int .i64 u6),.s (.int .i64 u7),.s (.int .i64 u8),.s (.int .i64 u9),.s (.int .i64 u10),.s (.bool uo)]=>if tt0=32 then some (u0,u1,ua,ux,nu,u2,u3,u4,u5,u6,u7,u8,u9,u10,uo) else none
 | _=>none
theorem decCl_b4_ok (b:Blk) (y4:(Int) × (Int) × (Bool) × (Bool) × (Nat) × (Int) × (Int) × (Int) × (Int) × (Int) × (Int) × (Int) × (Int) × (Int) × (Bool)) (h:decCl_b4 b=some y4):b=.cells 32 [iv (y4.1),iv (y4.2.1),bv (y4.2.2.1),bv (y4.2.2.2.1),.sub 711 4 0 (y4.2.2.2.2.1),iv (y4.2.2.2.2.2.1),iv (y4.2.2.2.2.2.2.1),iv (y4.2.2.2.2.2.2.2.1),iv (y4.2.2.2.2.2.2.2.2.1),iv (y4.2.2.2.2.2.2.2.2.2.1),iv (y4.2.2.2.2.2.2.2.2.2.2.1),iv (y4.2.2.2.2.2.2.2.2.2.2.2.1),iv (y4.2.2.2.2.2.2.2.2.2.2.2.2.1),iv (y4.2.2.2.2.2.2.2.2.2.2.2.2.2.1),bv (y4.2.2.2.2.2.2.2.2.2.2.2.2.2.2)]:=by
 unfold decCl_b4 at h
 split at h
 ·obtain ⟨e0,h⟩:=ite_some0 h
  subst e0
  cases h
  rfl
 ·cases h
def decCl_b5:Blk->Option ((List R4))
 | .lst true tt0 [.int .i64,.int .i64,.int .i64,.int .i64] r=>if tt0=41 then some (r) else none
 | _=>none
theorem decCl_b5_ok (b:Blk) (y5:(List R4)) (h:decCl_b5 b=some y5):b=.lst true 41 [.int .i64,.int .i64,.int .i64,.int .i64] (y5):=by
 unfold decCl_b5 at h
 split at h
 ·obtain ⟨e0,h⟩:=ite_some0 h
  subst e0
  cases h
  rfl
 ·cases h
def decCl:List V->List Blk->Option (PCl × ACl)
 | [v0,v1,v2,v3,v4,v5,v6,v7,v8],[b0,b1,b2,b3,b4,b5]=>(decCl_v0 v0).bind fun x0=>(decCl_v1 v1).bind fun x1=>(decCl_v2 v2).bind fun x2=>(decCl_v3 v3).bind fun x3=>(decCl_v4 v4).bind fun x4=>(decCl_v5 v5).bind fun x5=>(decCl_v6 v6).bind fun x6=>(decCl_v7 v7).bind fun x7=>(decCl_v8 v8).bind fun x8=>(decCl_b0 b0).bind fun y0=>(decCl_b1 b1).bind fun y1=>(decCl_b2 b2).bind fun y2=>(decCl_b3 b3).bind fun y3=>(decCl_b4 b4).bind fun y4=>(decCl_b5 b5).bind fun y5=>some (⟨(x0),(x3),(x4),(y1.1),(y1.2.1),(y1.2.2.2.2.2.1),(y1.2.2.2.2.2.2.1),(y1.2.2.2.2.2.2.2.1),(y1.2.2.2.2.2.2.2.2.1),(y1.2.2.2.2.2.2.2.2.2.1),(y1.2.2.2.2.2.2.2.2.2.2.1),(y1.2.2.2.2.2.2.2.2.2.2.2.1),(y1.2.2.2.2.2.2.2.2.2.2.2.2.1),(y1.2.2.2.2.2.2.2.2.2.2.2.2.2.1),(y1.2.2.1),(y1.2.2.2.1),(y1.2.2.2.2.2.2.2.2.2.2.2.2.2.2),(y1.2.2.2.2.1),(y2.1),(y2.2.1),(y2.2.2.1),(y2.2.2.2),(y4.1),(y4.2.1),(y4.2.2.2.2.2.1),(y4.2.2.2.2.2.2.1),(y4.2.2.2.2.2.2.2.1),(y4.2.2.2.2.2.2.2.2.1),(y4.2.2.2.2.2.2.2.2.2.1),(y4.2.2.2.2.2.2.2.2.2.2.1),(y4.2.2.2.2.2.2.2.2.2.2.2.1),(y4.2.2.2.2.2.2.2.2.2.2.2.2.1),(y4.2.2.2.2.2.2.2.2.2.2.2.2.2.1),(y4.2.2.1),(y4.2.2.2.1),(y4.2.2.2.2.2.2.2.2.2.2.2.2.2.2),(y4.2.2.2.2.1),(y0),(y3),(y5),(x6)⟩,⟨(x7),(x8)⟩)
 | _,_=>none
theorem decCl_ok (l:List V) (b:List Blk) (d:PCl × ACl) (h:decCl l b=some d):l=vsCl d.1 d.2/\b=bsCl d.1 d.2:=by
 unfold decCl at h
 split at h
 ·obtain ⟨x0,hx0,h⟩:=Option.bind_eq_some_iff.1 h
  obtain ⟨x1,hx1,h⟩:=Option.bind_eq_some_iff.1 h
  obtain ⟨x2,hx2,h⟩:=Option.bind_eq_some_iff.1 h
  obtain ⟨x3,hx3,h⟩:=Option.bind_eq_some_iff.1 h
  obtain ⟨x4,hx4,h⟩:=Option.bind_eq_some_iff.1 h
  obtain ⟨x5,hx5,h⟩:=Option.bind_eq_some_iff.1 h
  obtain ⟨x6,hx6,h⟩:=Option.bind_eq_some_iff.1 h
  obtain ⟨x7,hx7,h⟩:=Option.bind_eq_some_iff.1 h
  obtain ⟨x8,hx8,h⟩:=Option.bind_eq_some_iff.1 h
  obtain ⟨y0,hy0,h⟩:=Option.bind_eq_some_iff.1 h
  obtain ⟨y1,hy1,h⟩:=Option.bind_eq_some_iff.1 h
  obtain ⟨y2,hy2,h⟩:=Option.bind_eq_some_iff.1 h
  obtain ⟨y3,hy3,h⟩:=Option.bind_eq_some_iff.1 h
  obtain ⟨y4,hy4,h⟩:=Option.bind_eq_some_iff.1 h
  obtain ⟨y5,hy5,h⟩:=Option.bind_eq_some_iff.1 h
  have ex0:=decCl_v0_ok _ _ hx0
  have ex1:=decCl_v1_ok _ _ hx1
  have ex2:=decCl_v2_ok _ _ hx2
  have ex3:=decCl_v3_ok _ _ hx3
  have ex4:=decCl_v4_ok _ _ hx4
  have ex5:=decCl_v5_ok _ _ hx5
  have ex6:=decCl_v6_ok _ _ hx6
  have ex7:=decCl_v7_ok _ _ hx7
  have ex8:=decCl_v8_ok _ _ hx8
  have ey0:=decCl_b0_ok _ _ hy0
  have ey1:=decCl_b1_ok _ _ hy1
  have ey2:=decCl_b2_ok _ _ hy2
  have ey3:=decCl_b3_ok _ _ hy3
  have ey4:=decCl_b4_ok _ _ hy4
  have ey5:=decCl_b5_ok _ _ hy5
  cases h
  subst ex0 ex1 ex2 ex3 ex4 ex5 ex6 ex7 ex8 ey0 ey1 ey2 ey3 ey4 ey5
  exact ⟨rfl,rfl⟩
 ·cases h
noncomputable def rgCl:Nat:=(firstReg lpCl).getD 0
theorem rgCl_is:firstReg lpCl=some rgCl:=by kernel_rfl
theorem wayCl1 (p:PCl) (a:ACl):T.path [true,true,true,true,true,true,false] (rdCl p a)=some ([(decide (a.i<(p.nr:Int)),true),(idR p.r p.nr a.i,true),(ldR p.r a.i,true),((g4 p.r a.i).2.2.1==6,true),(idR p.r p.nr a.i,true),(ldR p.r a.i,true),((g4 p.r a.i).2.2.2 != p.y0,false)],(.normal,FCl p ⟨IntKind.wrap .i64 (a.d+1),IntKind.wrap .i64 (a.i+1)⟩)):=by kernel_rfl
theorem wayCl0 (p:PCl) (a:ACl):T.path [true,true,true,false] (rdCl p a)=some ([(decide (a.i<(p.nr:Int)),true),(idR p.r p.nr a.i,true),(ldR p.r a.i,true),((g4 p.r a.i).2.2.1==6,false)],(.normal,FCl p ⟨a.d,IntKind.wrap .i64 (a.i+1)⟩)):=by kernel_rfl
theorem wayClx (p:PCl) (a:ACl):T.path [false] (rdCl p a)=some ([(decide (a.i<(p.nr:Int)),false)],(.exit 0,FCl p a)):=by kernel_rfl
structure okCl (p:PCl) (a:ACl):Prop where
 nr:p.nr=p.r.length
 lb:p.r.length<=90000
 i0:0<=a.i
 i1:a.i<=(p.nr:Int)
 dd:a.d=((cS 6 (p.r.take a.i.toNat):Nat):Int)
 al:∀ x∈p.r,x.2.2.1=6->x.2.2.2=p.y0
def nxtCl (p:PCl) (a:ACl):Option ACl:=if a.i<(p.nr:Int) then some ⟨if (g4 p.r a.i).2.2.1=6 then a.d+1 else a.d,a.i+1⟩ else none
def muCl (p:PCl) (a:ACl):Nat:=((p.nr:Int) - a.i).toNat
noncomputable def outCl (p:PCl) (a:ACl):T (Ex × St):=.ret (.exit 0,FCl p a)
theorem cS_snoc (k:Int) (l:List R4) (x:R4):cS k (l++[x])=cS k l+if x.2.2.1=k then 1 else 0:=by
 unfold cS
 rw [List.countP_append,List.countP_cons,List.countP_nil]
 by_cases q:x.2.2.1=k
 ·rw [if_pos q,if_pos (by simpa using q)]
 ·rw [if_neg q,if_neg (by simpa using q)]
theorem okCl_next {p:PCl} {a b:ACl} (h:okCl p a) (e:nxtCl p a=some b):okCl p b/\muCl p b<muCl p a:=by
 obtain ⟨nr,lb,i0,i1,dd,al⟩:=h
 unfold nxtCl at e
 split at e
 ·rename_i hc
  obtain rfl:=Option.some.inj e
  have hl:a.i.toNat<p.r.length:=by omega
  have hg:g4 p.r a.i=p.r[a.i.toNat]:=g4_at i0 hl
  refine ⟨⟨nr,lb,by show 0<=a.i+1;omega,by show a.i+1<=_;omega,?_,al⟩,by show ((p.nr:Int) - (a.i+1)).toNat<((p.nr:Int) - a.i).toNat;omega⟩
  show (if (g4 p.r a.i).2.2.1=6 then a.d+1 else a.d)=((cS 6 (p.r.take (a.i+1).toNat):Nat):Int)
  have htk:p.r.take (a.i+1).toNat=p.r.take a.i.toNat++[p.r[a.i.toNat]]:=by
   rw [show (a.i+1).toNat=a.i.toNat+1 by omega]
   exact List.take_succ_eq_append_getElem hl
  rw [htk,cS_snoc,hg,dd]
  split<;>omega
 ·cases e
theorem stCl (p:PCl) (a b:ACl) (h:invC okCl p a=true) (e:nxtCl p a=some b):invC okCl p b=true/\muCl p b<muCl p a :=
 ⟨invC_is (okCl_next (invC_ok h) e).1,(okCl_next (invC_ok h) e).2⟩
theorem hrCl (p:PCl) (a:ACl) (h:invC okCl p a=true):(∀ b,nxtCl p a=some b->(rdCl p a).eval=some (.normal,FCl p b))/\(nxtCl p a=none->∀ r,(outCl p a).eval=some r->r.1≠.normal/\(rdCl p a).eval=some r):=by
 have h0:=invC_ok h
 obtain ⟨nr,lb,i0,i1,dd,al⟩:=h0
 refine ⟨fun b e => ?_,fun e r hr => ?_⟩
 ·unfold nxtCl at e
  split at e
  ·rename_i hc
   obtain rfl:=Option.some.inj e
   have hl:a.i.toNat<p.r.length:=by omega
   obtain ⟨x1,x2⟩:=idR_is (g:=p.r) (k:=p.nr) (i:=a.i) nr i0 hc
   have w1:IntKind.wrap .i64 (a.i+1)=a.i+1:=wrap64_in (by omega) (by omega)
   have hcs:cS 6 (p.r.take a.i.toNat)<=(p.r.take a.i.toNat).length:=List.countP_le_length
   have htl:(p.r.take a.i.toNat).length<=p.r.length:=by rw [List.length_take];omega
   by_cases q:(g4 p.r a.i).2.2.1=6
   ·have hg:g4 p.r a.i=p.r[a.i.toNat]:=g4_at i0 hl
    have hy:(g4 p.r a.i).2.2.2=p.y0:=by
     rw [hg] at q ⊢
     exact al _ (List.getElem_mem hl) q
    have w2:IntKind.wrap .i64 (a.d+1)=a.d+1:=wrap64_in (by omega) (by omega)
    rw [if_pos q]
    have:=T.path_eval (wayCl1 p a) ⟨decide_eq_true hc,x1,x2,by rw [q];rfl,x1,x2,by rw [hy];simp,trivial⟩
    rw [this,w1,w2]
   ·rw [if_neg q]
    have:=T.path_eval (wayCl0 p a) ⟨decide_eq_true hc,x1,x2,by simpa using q,trivial⟩
    rw [this,w1]
  ·cases e
 ·unfold nxtCl at e
  split at e
  ·cases e
  ·rename_i hc
   obtain rfl:=Option.some.inj hr
   exact ⟨by simp,T.path_eval (wayClx p a) ⟨decide_eq_false hc,trivial⟩⟩
noncomputable def famCl:LSpec:=famWN [9,13,15,16,17,18,19,20,21] SCl 5000 5000 155 decCl (invC okCl) nxtCl outCl
theorem lpCl_ok:LoopOk Fc lpCl famCl:=famWN_ok (vs:=vsCl) (bs:=bsCl) Fc_ok mixed (noLoops_ok _) decCl_ok muCl stCl fun p a h=>by
 rw [<- T.eval_anon (t:=roundN _ _ _ _ _ _ _ _)]
 exact hrCl p a h
noncomputable def craE:Eng.Spec:=execS Fc (byReg [(rgCl,famCl)]) 4
theorem craE_ok:SpecOk Tryz.prog 4 craE:=execS_loops Fc_ok mixed Tryz.func4 (by kernel_rfl) (by kernel_rfl) (one_lp (c:=lpCl) (by kernel_rfl) rgCl_is lpCl_ok)
end Go.Proofs.YtggakaogidjjbaaGreatDoor.Sys
namespace Go.Proofs.YtggakaogidjjbaaGreatDoor.Sys
open Go.Eng Go.RowKit Mil Rin
set_option linter.unusedVariables false
set_option linter.unusedSimpArgs false
set_option maxRecDepth 100000
def tIni:ByteArray:=⟨#[105,110,105,116,105,97,108,58,32]⟩
def tLm:ByteArray:=⟨#[10,108,105,109,105,116,58,32]⟩
def caTx (P L:Int):ByteArray:=tIni++Txt.itoaB P++tLm++Txt.itoaB L
def caCf (P L:Int):Conf.Cf:=Txt.cfU (caTx P L)
noncomputable def caA (q:Bool) (P L K:Int):SysS:=bif q then { arD K (s0 (caCf P L)) with qu:=some ((arD K (s0 (caCf P L))).qu.getD 0) } else { arD K (s0 (caCf P L)) with qu:=none }
def caI (x P:Int):Int:=IntKind.wrap .i64 (Int.tmod (IntKind.wrap .u64 x) (IntKind.wrap .u64 P))
noncomputable def caB (q:Bool) (P L K w:Int):SysS:=snD (crP (caA q P L K) w)
noncomputable def pCa (P w:Int) (A B:SysS):PCl:=⟨P,0,7,A.t,A.w,A.e1,A.e2,A.e0,A.e1,A.e2,A.e3,A.e4,A.e5,A.e6,A.aP,A.px,ovD A,A.lp.length,(g4 A.lp w).1,(g4 A.lp w).2.1,(g4 A.lp w).2.2.1,(g4 A.lp w).2.2.2,B.t,B.w,B.e1,B.e2,B.e0,B.e1,B.e2,B.e3,B.e4,B.e5,B.e6,B.aP,B.px,ovD B,B.lp.length,A.lp,B.lp,B.rq,B.rq.length⟩
noncomputable def caZ (P w:Int) (A B:SysS):ACl:=endW (nxtCl (pCa P w A B)) ⟨0,0⟩
noncomputable def caCo (q:Bool) (P L K w:Int):List (Bool × Bool):=[(false,false),(false,false),(false,false),(in0 P,true),(big (tIni.size+(Txt.itoaB P).size),false),(big ((tIni++Txt.itoaB P).size+tLm.size),false),(in0 L,true),(big ((tIni++Txt.itoaB P++tLm).size+(Txt.itoaB L).size),false),(decide (Conf.dflt=Conf.dflt)&&Txt.okU (caTx P L),true),(false,false),(Conf.mayB (caCf P L),true),(false,false),(!Evt.mayE 2 K noT,false),(false,false),(true,true),(Dly.pB (okAr K ⟨s0 (caCf P L),0⟩),true),((arD K (s0 (caCf P L))).qu.isSome,q),(false,false),(Lif.okN (caA q P L K).ln (caA q P L K).lp,true),((((caA q P L K).lp.length:Nat):Int) != P,false),(IntKind.wrap .u64 P==0,false),(idR (caA q P L K).lp (caA q P L K).lp.length w,true),(ldR (caA q P L K).lp w,true),(!Evt.mayE 4 w noT,false),(false,false),(false,false),(false,false),(true,true),(Dly.pB (okCra (caA q P L K) w),true),(decide (((caA q P L K).lp.length:Int)<=w),false),(!Evt.mayE 4 (IntKind.wrap .i64 (P - 1)) noT,false),(false,false),(false,false),(false,false),(true,true),(Dly.pB (okCra (caB q P L K w) (IntKind.wrap .i64 (P - 1))),true),(decide (((caB q P L K w).lp.length:Int)<=IntKind.wrap .i64 (P - 1)),true),(Lif.okN (caB q P L K w).ln (caB q P L K w).lp,true),(decide ((caB q P L K w).nr=(caB q P L K w).rq.length/\(caB q P L K w).rq.length<=100000),true),(invC okCl (pCa P w (caA q P L K) (caB q P L K w)) ⟨0,0⟩,true)]
noncomputable def caG (P w:Int) (A B:SysS):Bool:=bif bif bif bif bif true then (caZ P w A B).d==(g4 A.lp w).2.2.1 else false then B.e6==(g4 A.lp w).2.2.1 else false then B.e2==IntKind.wrap .i64 (A.e2 - (g4 A.lp w).2.2.1) else false then B.e1==A.e1 else false then ((B.lp.length:Nat):Int)==IntKind.wrap .i64 (P - 1) else false
theorem cra_w (q:Bool) (l d n x:Int):T.path [false,false,false,true,false,false,true,false,true,false,true,false,false,false,true,true,q,false,true,false,false,true,true,false,false,false,false,true,true,false,false,false,false,false,true,true,true,true,true,true] (T.anon (craE [Eng.iv l,Eng.iv d,Eng.iv n,Eng.iv x]))=some (caCo q (ofU1 l 6) (ofU1 d 5) (ofU1 n 40) (caI x (ofU1 l 6)),Eng.bv (caG (ofU1 l 6) (caI x (ofU1 l 6)) (caA q (ofU1 l 6) (ofU1 d 5) (ofU1 n 40)) (caB q (ofU1 l 6) (ofU1 d 5) (ofU1 n 40) (caI x (ofU1 l 6))))):=by cases q<;>kernel_rfl
theorem frD_0 (l:List R4) (px:Bool) {m:Int} (h:m<1):frD l px m=Lif.rdy l:=by
 unfold frD
 rw [Sub.ofV_lt h]
 cases px<;>rfl
theorem goSn_crP {B:Nat} {s:SysS} (h:SI B s) (hs:s.c.subset<1) {k:Int} (k0:0<=k) (k1:k<(s.lp.length:Int)) (hg:goSn s=false):goSn (crP s k)=false:=by
 have hc:=crP_ok h k0 k1
 unfold goSn at hg ⊢
 rw [Bool.and_eq_false_iff] at hg ⊢
 rcases hg with hg | hg
 ·exact Or.inl hg
 ·refine Or.inr ?_
  have hf:frI s<0:=by simpa using hg
  have hb:=fun p hp=>by
   have:=h.busy p hp
   have hB:=h.hB
   exact (⟨this.1,by omega⟩:(0:Int)<=p.2.2.1/\p.2.2.1<=1000000000)
  have ha:=(frI_iff h.free hb).1 hf
  have hb2:=fun p hp=>by
   have:=hc.busy p hp
   have hB:=hc.hB
   exact (⟨this.1,by omega⟩:(0:Int)<=p.2.2.1/\p.2.2.1<=1000000000)
  have:frI (crP s k)<0:=(frI_iff hc.free hb2).2 fun p hp hd=>by
   have hm:p∈s.lp:=List.mem_of_mem_eraseIdx hp
   refine ha p hm ?_
   rw [frD_0 _ _ hs]
   have hd':p.1∈frD (s.lp.eraseIdx k.toNat) s.px s.c.subset:=hd
   rw [frD_0 _ _ hs] at hd'
   unfold Lif.rdy at hd' ⊢
   exact (((List.eraseIdx_sublist s.lp k.toNat).filter _).map _).subset hd'
  simpa using this
theorem snD_stay {B:Nat} {s:SysS} (h:SI B s) (hg:goSn s=false):snD s=s:=by
 refine (snD_go h).2.2.2 (fun a=>a=s) rfl fun a ha e g1 g2 => ?_
 subst e
 unfold goSn at hg
 rw [Bool.and_eq_false_iff] at hg
 rcases hg with hg | hg
 ·exact absurd g1 (by simpa using hg)
 ·exact absurd (show frI a<0 by simpa using hg) g2
theorem arN_same (s:SysS):(arN s).lp=s.lp/\(arN s).e6=s.e6/\(arN s).c=s.c:=by unfold arN;cases decide (s.qd<=(s.qn:Int))<;>exact ⟨rfl,rfl,rfl⟩
theorem ca_start {c:Conf.Cf} {P K:Int} (hm:Conf.mayB c=true) (hi:c.initial=P) (p0:1<=P) (p1:P<=6) (ok:okAr K ⟨s0 c,0⟩) :
  (((arD K (s0 c)).lp.length:Nat):Int)=P/\(arD K (s0 c)).e6=0/\goSn (arD K (s0 c))=false/\(arD K (s0 c)).c=c:=by
 obtain ⟨_,ind⟩:=arD_ok ok
 have hl:(((s0 c).lp.length:Nat):Int)=P:=by
  show (((Lif.ripeL 0 0 (Lif.scaleL 0 [] c.initial 0)).length:Nat):Int)=P
  rw [hi]
  obtain ⟨a,rfl⟩:∃ a:Nat,P=((a+1:Nat):Int):=⟨(P - 1).toNat,by omega⟩
  have h:((List.range 6).all fun (a:Nat)=>decide ((Lif.ripeL 0 0 (Lif.scaleL 0 [] ((a+1:Nat):Int) 0)).length=a+1))=true:=by kernel_rfl
  have h2:=of_decide_eq_true (List.all_eq_true.1 h a (List.mem_range.2 (by omega)))
  rw [h2]
 refine ind (fun a k=>((a.lp.length:Nat):Int)=P/\a.e6=0/\goSn a=false/\a.c=c) ⟨hl,rfl,rfl,rfl⟩ fun a k ha ⟨q1,q2,q3,q4⟩ r0 r1 hb => ?_
 obtain ⟨iN,_⟩:=arN_ok ha (by omega)
 obtain ⟨n1,n2,n3⟩:=arN_same a
 obtain ⟨_,_,g,ind2⟩:=snD_go iN
 obtain ⟨l1,l2⟩:=ind2 (fun b=>b.lp.length=a.lp.length/\b.c=a.c) ⟨by rw [n1],n3⟩ fun b hb2 ⟨e1,e2⟩ g1 g2=>by
  obtain ⟨k,hk,x,r,hn,_,_,_,_,e⟩:=snP_is hb2 g1 g2
  rw [e]
  exact ⟨by show (b.lp.set _ _).length=_;rw [List.length_set];exact e1,e2⟩
 exact ⟨by rw [l1];exact q1,by rw [(snD_e iN).2.2.2.1,n2];exact q2,g,l2.trans q4⟩
theorem ca_all:((List.range 6).all fun (a:Nat)=>(List.range 5).all fun (b:Nat)=>decide (caCf ((a+1:Nat):Int) ((b+1:Nat):Int)={ Conf.dflt with initial:=((a+1:Nat):Int),limit:=((b+1:Nat):Int) })&&Txt.okU (caTx ((a+1:Nat):Int) ((b+1:Nat):Int))&&Conf.mayB { Conf.dflt with initial:=((a+1:Nat):Int),limit:=((b+1:Nat):Int) }&&decide ((Txt.itoaB ((a+1:Nat):Int)).size<=20)&&decide ((Txt.itoaB ((b+1:Nat):Int)).size<=20))=true:=by kernel_rfl
theorem ca_cf {P L:Int} (p0:1<=P) (p1:P<=6) (l0:1<=L) (l1:L<=5):caCf P L={ Conf.dflt with initial:=P,limit:=L }/\Txt.okU (caTx P L)=true/\Conf.mayB { Conf.dflt with initial:=P,limit:=L }=true/\(Txt.itoaB P).size<=20/\(Txt.itoaB L).size<=20:=by
 obtain ⟨a,rfl⟩:∃ a:Nat,P=((a+1:Nat):Int):=⟨(P - 1).toNat,by omega⟩
 obtain ⟨b,rfl⟩:∃ b:Nat,L=((b+1:Nat):Int):=⟨(L - 1).toNat,by omega⟩
 have h1:=List.all_eq_true.1 ca_all a (List.mem_range.2 (by omega))
 have h2:=List.all_eq_true.1 h1 b (List.mem_range.2 (by omega))
 simp only [Bool.and_eq_true,decide_eq_true_eq] at h2
 exact ⟨h2.1.1.1.1,h2.1.1.1.2,h2.1.1.2,h2.1.2,h2.2⟩
theorem caI_in {x P:Int} (p0:1<=P) (p1:P<=6):IntKind.wrap .u64 P=P/\0<=caI x P/\caI x P<P:=by
 have e:IntKind.wrap .u64 P=P:=by
  unfold IntKind.wrap
  exact Int.emod_eq_of_lt (by omega) (by show P<18446744073709551616;omega)
 have:=ofU_in (x:=x) (m:=P) (by omega) (by omega)
 refine ⟨e,?_⟩
 unfold caI
 rw [e]
 exact this
theorem may_noT {k n:Int} (h5:k≠5) (h:Evt.wit k n=true):(!Evt.mayE k n noT)=false:=by
 have:Evt.mayE k n noT=true:=by
  unfold Evt.mayE
  rw [if_neg h5,h]
  simp [Evt.noS,noT]
 rw [this];rfl
theorem cra_yes (l d n x:Int):(craE [Eng.iv l,Eng.iv d,Eng.iv n,Eng.iv x]).yes:=by
 obtain ⟨p0,p1⟩:=ofU1_in (x:=l) (m:=6) (by decide) (by decide)
 obtain ⟨l0,l1⟩:=ofU1_in (x:=d) (m:=5) (by decide) (by decide)
 obtain ⟨k0,k1⟩:=ofU1_in (x:=n) (m:=40) (by decide) (by decide)
 have W:=fun q=>cra_w q l d n x
 revert W p0 p1 l0 l1 k0 k1
 generalize ofU1 l 6=P
 generalize ofU1 d 5=L
 generalize ofU1 n 40=K
 intro p0 p1 l0 l1 k0 k1 W
 obtain ⟨wP,w0,w1⟩:=caI_in (x:=x) p0 p1
 revert W w0 w1
 generalize caI x P=w
 intro W w0 w1
 obtain ⟨c1,c2,c3,c4,c5⟩:=ca_cf p0 p1 l0 l1
 have hm:Conf.mayB (caCf P L)=true:=by rw [c1];exact c3
 have hS:=s0_ok hm (by rw [c1];rfl)
 have ok:okAr K ⟨s0 (caCf P L),0⟩:=⟨hS,Int.le_refl 0,by show (0:Int)<=K;omega,by show K<=1000;omega,by show ((0:Nat):Int)+(K - 0)<=90000;omega⟩
 obtain ⟨f1,f2,f3,f4⟩:=ca_start hm (by rw [c1]) p0 p1 ok
 have i:=(arD_ok ok).1
 obtain ⟨q,hq⟩:∃ q,(arD K (s0 (caCf P L))).qu.isSome=q:=⟨_,rfl⟩
 have hA:caA q P L K=arD K (s0 (caCf P L)):=by
  unfold caA
  revert hq
  generalize arD K (s0 (caCf P L))=A
  intro hq
  obtain ⟨c,t,z,px,w,aT,aS,aQ,aW,aP,aX,lo,nr,nfl,e0,e1,e2,e3,e4,e5,e6,nt,lm,ln,qd,qu,qn,d,rq,fl,tl,tm,lp,ql⟩:=A
  cases qu with
  | none=>have:q=false:=hq.symm;subst this;rfl
  | some u=>have:q=true:=hq.symm;subst this;rfl
 have hs:(arD K (s0 (caCf P L))).c.subset<1:=by rw [f4,c1];exact (by decide:(0:Int)<1)
 have run:=fun C=>T.path_eval (W q) C
 unfold caCo at run
 unfold caB at run
 rw [hA] at run
 clear hA f4
 revert run i f1 f2 f3 hs hq
 generalize arD K (s0 (caCf P L))=A
 intro f1 f2 f3 i hq hs run
 have hwl:w<(A.lp.length:Int):=by omega
 have iC:=crP_ok i w0 hwl
 have hB:snD (crP A w)=crP A w:=snD_stay iC (goSn_crP i hs w0 hwl f3)
 rw [hB] at run
 have hk:w.toNat<A.lp.length:=by omega
 have hg:g4 A.lp w=A.lp[w.toNat]:=g4_at w0 hk
 have hbp:=i.bp _ (List.getElem_mem hk)
 rw [<- hg] at hbp
 obtain ⟨a1,a2,a3,a4,a5,a6⟩:=crQ_says A.t (g4 A.lp w).1 A.fl A.rq i.fr i.fs
 have z6:cS 6 A.rq=0:=by have:=i.e6;omega
 have hat:atP A.rq A.fl (g4 A.lp w).1<=A.fl.length:=List.countP_le_length
 have n2:=i.e2
 have nf:=i.f2
 have c2l:=cS_le 2 A.rq
 have lb:=i.lb
 have hpods:=i.pods
 have lC:(crP A w).lp.length=A.lp.length - 1:=by
  show (A.lp.eraseIdx w.toNat).length=_
  rw [List.length_eraseIdx,if_pos hk]
 have wp:IntKind.wrap .i64 (P - 1)=P - 1:=wrap64_in (by omega) (by omega)
 have hal:∀ y∈(crP A w).rq,y.2.2.1=6->y.2.2.2=(g4 A.lp w).1:=by
  intro y hy h6
  obtain ⟨j,hj,rfl⟩:=List.getElem_of_mem hy
  have hj2:j<(crQ A.t (g4 A.lp w).1 A.fl A.rq).length:=hj
  have hj':j<A.rq.length:=by omega
  by_cases q:∃ z∈A.fl,podO A.rq z=(g4 A.lp w).1/\z.toNat=j
  ·obtain ⟨z,hz,hzid,rfl⟩:=q
   have e:=a3 z hz hzid
   have e':(crQ A.t (g4 A.lp w).1 A.fl A.rq)[z.toNat]'hj2=((g4 A.rq z).1,A.t,6,(g4 A.rq z).2.2.2):=by
    rw [List.getElem?_eq_getElem hj2] at e
    exact Option.some.inj e
   show ((crQ A.t (g4 A.lp w).1 A.fl A.rq)[z.toNat]'hj2).2.2.2=_
   rw [e']
   exact hzid
  ·exfalso
   have e:=a2 j fun z hz hzid hzj=>q ⟨z,hz,hzid,hzj⟩
   have e':(crQ A.t (g4 A.lp w).1 A.fl A.rq)[j]'hj2=A.rq[j]:=by
    rw [List.getElem?_eq_getElem hj2,List.getElem?_eq_getElem hj'] at e
    exact Option.some.inj e
   have h6':((crQ A.t (g4 A.lp w).1 A.fl A.rq)[j]'hj2).2.2.1=6:=h6
   rw [e'] at h6'
   unfold cS at z6
   rw [List.countP_eq_zero] at z6
   exact z6 _ (List.getElem_mem hj') (by simpa using h6')
 have h0:okCl (pCa P w A (crP A w)) ⟨0,0⟩:=⟨rfl,iC.lb,Int.le_refl 0,by show (0:Int)<=(((crP A w).rq.length:Nat):Int);omega,rfl,hal⟩
 obtain ⟨e1,e2,_⟩:=endW_says (nxt:=nxtCl (pCa P w A (crP A w))) (I:=fun a=>okCl (pCa P w A (crP A w)) a) (μ:=muCl (pCa P w A (crP A w))) (fun a b h e=>okCl_next h e) h0
 have hZ:(caZ P w A (crP A w)).d=(g4 A.lp w).2.2.1:=by
  unfold caZ
  revert e1 e2
  generalize endW (nxtCl (pCa P w A (crP A w))) ⟨0,0⟩=z
  intro e1 e2
  have hn:¬ z.i<((pCa P w A (crP A w)).nr:Int):=by
   unfold nxtCl at e2
   split at e2
   ·cases e2
   ·assumption
  have i1:=e1.i1
  have i0:=e1.i0
  have hnr:(pCa P w A (crP A w)).nr=(crP A w).rq.length:=rfl
  have hz:z.i.toNat=(crP A w).rq.length:=by omega
  have dd:=e1.dd
  rw [hz] at dd
  have dd':z.d=((cS 6 ((crP A w).rq.take (crP A w).rq.length):Nat):Int):=dd
  rw [List.take_length] at dd'
  have a5':cS 6 (crP A w).rq=cS 6 A.rq+atP A.rq A.fl (g4 A.lp w).1:=a5
  omega
 have s1:tIni.size=9:=rfl
 have s2:tLm.size=8:=rfl
 have z1:(tIni++Txt.itoaB P).size=tIni.size+(Txt.itoaB P).size:=ByteArray.size_append
 have z2:(tIni++Txt.itoaB P++tLm).size=(tIni++Txt.itoaB P).size+tLm.size:=ByteArray.size_append
 obtain ⟨x1,x2⟩:=idR_is (g:=A.lp) (k:=A.lp.length) (i:=w) rfl w0 hwl
 have in0_ok:∀ y:Int,0<=y->y<=1000->in0 y=true:=fun y y0 y1=>by unfold in0;rw [decide_eq_true y0,decide_eq_true (show y<=9223372036854775807 by omega)];rfl
 have run:=run ⟨rfl,rfl,rfl,in0_ok P (by omega) (by omega),big_no (by omega),big_no (by omega),in0_ok L (by omega) (by omega),big_no (by omega),by rw [c2,decide_eq_true rfl];rfl,rfl,hm,rfl,may_noT (by decide) (by unfold Evt.wit;rw [if_neg (by decide),if_pos rfl,decide_eq_true (show 1<=K by omega),decide_eq_true (show K<=100 by omega)];rfl),rfl,rfl,Dly.pB_is ok,hq,rfl,by rw [i.ln];exact Lif.okN_of i.free.n,by rw [f1];simp,by rw [wP];simp;omega,x1,x2,may_noT (by decide) (by unfold Evt.wit;rw [if_neg (by decide),if_neg (by decide),if_pos (Or.inr rfl),decide_eq_true (show 0<=w by omega),decide_eq_true (show w<=999 by omega)];rfl),rfl,rfl,rfl,rfl,Dly.pB_is ⟨i,w0⟩,decide_eq_false (by omega),by rw [wp];exact may_noT (by decide) (by unfold Evt.wit;rw [if_neg (by decide),if_neg (by decide),if_pos (Or.inr rfl),decide_eq_true (show 0<=P - 1 by omega),decide_eq_true (show P - 1<=999 by omega)];rfl),rfl,rfl,rfl,rfl,Dly.pB_is ⟨iC,by rw [wp];omega⟩,decide_eq_true (by rw [wp,lC];omega),by rw [iC.ln];exact Lif.okN_of iC.free.n,decide_eq_true ⟨iC.nr,by have:=iC.lb;omega⟩,invC_is h0,trivial⟩
 refine Or.inr ?_
 rw [<- T.eval_anon (t:=craE _),run]
 have w2:IntKind.wrap .i64 (A.e2 - (g4 A.lp w).2.2.1)=A.e2 - (g4 A.lp w).2.2.1:=wrap64_in (by omega) (by omega)
 have b6:(crP A w).e6=(g4 A.lp w).2.2.1:=by show A.e6+((atP A.rq A.fl (g4 A.lp w).1:Nat):Int)=_;omega
 have b2:(crP A w).e2=A.e2 - (g4 A.lp w).2.2.1:=by show A.e2 - ((atP A.rq A.fl (g4 A.lp w).1:Nat):Int)=_;omega
 have b1:(crP A w).e1=A.e1:=rfl
 have hG:caG P w A (crP A w)=true:=by
  unfold caG
  rw [hZ,w2,b6,b2,b1,wp,lC,show ((A.lp.length - 1:Nat):Int)=P - 1 by omega]
  simp
 rw [hG];rfl
theorem crash_walk (l:Int) (wl:(Lit.int .i64 l).wf=true) (d:Int) (wd:(Lit.int .i64 d).wf=true) (n:Int) (wn:(Lit.int .i64 n).wf=true) (x:Int) (wx:(Lit.int .i64 x).wf=true) (w:World) (hG:Glob w) :
  Calls Tryz.prog 4 #[.int .i64 l,.int .i64 d,.int .i64 n,.int .i64 x] w fun e w'=>e=.returned (.bool true)/\Below w.heap.size w w' :=
 Law.law_rows (args:=[Eng.iv l,Eng.iv d,Eng.iv n,Eng.iv x]) (xs:=[.int .i64 l,.int .i64 d,.int .i64 n,.int .i64 x]) craE_ok rfl (cra_yes l d n x) w ⟨rfl,rfl,rfl,rfl,trivial⟩ hG
end Go.Proofs.YtggakaogidjjbaaGreatDoor.Sys
