import Derived.Test.YtncmdfdppmfeeaaGreatDoorRows
import Derived.OpenShut
import Derived.LaidMore
import Derived.Lay
import Derived.Lib.LaidTab
import Derived.Stop.LaidErr
import Derived.Shelf.Vars
import Derived.Test.YtncmdfdppmfeeaaGreatDoorHT
namespace Go.Proofs.YtncmdfdppmfeeaaGreatDoor.Law.Gl
open Go.Joins Go.ChangeShapes Go.WideShapes Go.ChangeAt Go.RowKit Go.Deep
set_option linter.unusedVariables false
variable {H:Type} {enc:TypeId × Value->H}
theorem of_change_and {a:Assume} {C:Checked} {os:Os} {f:FuncId} {fn:Func} {s:ChangeSpec} {conds:List PathCond} {apart fresh handsOn again:Bool} {X:World->Array Value->Prop}
  (hX:∀ (w w':World) (args:Array Value),w.heap=w'.heap->X w args->X w' args)
  (own:ownKnob C.prog.godebug=none) (started:os.Started) (noInit:C.prog.inits.idxOf? f=none) (hfn:C.prog.funcs[f]?=some fn)
  (witness:∃ (w:World) (tape:Tape) (i:Input),w.os=os/\(w.forCall tape i).Shaped C.prog/\i.vars=[]/\Input.okWide C.prog (w.forCall tape i) .any w.heap.size f i /\
   ((s.pre enc C.prog fn conds apart (w.forCall tape i).memory i.args/\X (w.forCall tape i).memory i.args)/\sizedMet enc C.prog fn (OpenSpec.ofChange s) apart (w.forCall tape i).memory i.args)/\a.holds C.prog (lone (Frame.enter C.prog f i.args .normal) [] (w.forCall tape i)))
  (contract:∀ (W:World) (base:Nat) (args:Array Value) (ds gs:List (DataW H)) (before:List MemPlace),
   (∀ (j:Nat) t v,fn.params[j]?=some t->args[j]?=some v->Value.okWide C.prog W .any base t v) ->
   DataW.Whole enc C.prog fn.params.toList s.vars apart W args.toList ds gs before->X W args->W.ShapedOpen C.prog ->
   Calls C.prog f args W fun e W'=>∃ v,e=.returned v/\s.post enc C.prog fn apart fresh handsOn again W args v W') :
  ReturnsInHanded a C os f .any (fun w args=>(s.pre enc C.prog fn conds apart w args/\X w args)/\sizedMet enc C.prog fn (OpenSpec.ofChange s) apart w args) (s.post enc C.prog fn apart fresh handsOn again):=by
 refine returnsInHanded_of_calls own started noInit witness ?_
 intro w tape i _ hsh _ hok hpre _
 obtain ⟨_,_,_,fn',hfn',_,_,_,_,hval⟩:=hok
 obtain rfl:fn'=fn:=Option.some.inj (hfn'.symm.trans hfn)
 obtain ⟨⟨⟨ds,gs,before,hw,_⟩,hx⟩,_⟩:=hpre
 have hw':=DataW.Whole.of_heap (w':=w.forCall tape i) (by rfl) hw
 refine (contract (w.forCall tape i) w.heap.size i.args ds gs before hval hw' (hX _ _ _ (by rfl) hx) hsh).mono fun e W' ⟨v,he,hp⟩ => ?_
 subst he
 exact ChangeSpec.post_blind hp
theorem Wc {W:World} {rest:List (String × DataW Unit)} (h3:laidMet Tryz.prog (("internal/strconv.uint64pow10",Lib.tabData .u64 Lib.pow10Tab)::rest) W) (hsh:W.ShapedOpen Tryz.prog):Eng.Glob W:=by
 have ht:Lib.TabIs Tryz.prog W "internal/strconv.uint64pow10" .u64 Lib.pow10Tab:=Lib.tabIs_of_head (g:=1) (by kernel_rfl) (t:=((Tryz.prog.globals[1]?).map (·.type)).getD 0) (by kernel_rfl) (n:=20) (e:=164) (by kernel_rfl) (by kernel_rfl) (by kernel_rfl) (by kernel_rfl) h3
 refine ⟨?_,?_,?_⟩
 ·obtain ⟨cs,hh,-⟩:=hsh.1 (8 - 1) ((((begin Tryz.prog (fun _ _=>0) default).world.heap[8 - 1]?).bind Obj.row?).getD (#[],0)).1 ((((begin Tryz.prog (fun _ _=>0) default).world.heap[8 - 1]?).bind Obj.row?).getD (#[],0)).2 (of_decide_eq_true (by kernel_rfl)) (by kernel_rfl)
  have:=(Array.getElem?_eq_some_iff.1 hh).1
  show 8<=_
  omega
 ·unfold Lib.TabIs World.var? at ht
  rw [show Tryz.prog.globalNamed "internal/strconv.uint64pow10"=some 1 by kernel_rfl] at ht
  have ht:(match W.heap[1]? with | some (Obj.cells cs _ _)=>some cs | _=>none)=some (Lib.pow10Tab.map fun z=>Value.int .u64 z).toArray:=ht
  split at ht
  ·rename_i cs t s e
   obtain rfl:=Option.some.inj ht
   exact ⟨t,s,e⟩
  ·cases ht
 ·exact cell_of_shapedOpen_int (P:=Tryz.prog) (g:=0) (t:=3) (zero:=#[.int .i64 0]) hsh (of_decide_eq_true (by kernel_rfl)) (by kernel_rfl) rfl (by kernel_rfl) (by kernel_rfl) Tryz.underlying3
theorem glob {W:World} (hL:laidMetH Tryz.prog Rows.deskWordsRow.laid W) (hsh:W.ShapedOpen Tryz.prog):Eng.Glob W:=by
 rw [MakeChecks.laidMetH_plain _ _ _ (by kernel_rfl)] at hL
 exact Wc (rest:=[("unicode/utf8.acceptRanges",Rows.laid_unicode_utf8_acceptRanges),("unicode/utf8.first",Rows.laid_unicode_utf8_first)]) hL.tail.tail hsh
end Go.Proofs.YtncmdfdppmfeeaaGreatDoor.Law.Gl
namespace Go.Proofs.YtncmdfdppmfeeaaGreatDoor.Dsk
open Go.Eng Go.RowKit Go.Proofs.YtncmdfdppmfeeaaGreatDoor.Txt
set_option linter.unusedVariables false
set_option linter.unusedSimpArgs false
set_option maxRecDepth 100000
def dwI (w:Int):Int:=Int.tmod (IntKind.wrap .u64 w) 18
def dwC (w:Int) (J:Nat):List (Bool × Bool):=[(false,false)]++(((List.range J).map fun (j:Nat)=>(decide (dwI w=(j:Int)),false))++[(decide (dwI w=(J:Int)),true),(false,false),(false,false),(true,true)])
def dwP (J:Nat):List Bool:=[false]++(List.replicate J false++[true,false,false,true])
def dwAt (w:Int) (J:Nat):Prop:=T.path (dwP J) (T.anon (dwE [Eng.iv w]))=some (dwC w J,Eng.bv true)
theorem dw_0 (w:Int):dwAt w 0:=(by kernel_rfl:T.path (dwP 0) (T.anon (dwE [Eng.iv w]))=some (dwC w 0,Eng.bv true))
theorem dw_1 (w:Int):dwAt w 1:=(by kernel_rfl:T.path (dwP 1) (T.anon (dwE [Eng.iv w]))=some (dwC w 1,Eng.bv true))
theorem dw_2 (w:Int):dwAt w 2:=(by kernel_rfl:T.path (dwP 2) (T.anon (dwE [Eng.iv w]))=some (dwC w 2,Eng.bv true))
theorem dw_3 (w:Int):dwAt w 3:=(by kernel_rfl:T.path (dwP 3) (T.anon (dwE [Eng.iv w]))=some (dwC w 3,Eng.bv true))
theorem dw_4 (w:Int):dwAt w 4:=(by kernel_rfl:T.path (dwP 4) (T.anon (dwE [Eng.iv w]))=some (dwC w 4,Eng.bv true))
theorem dw_5 (w:Int):dwAt w 5:=(by kernel_rfl:T.path (dwP 5) (T.anon (dwE [Eng.iv w]))=some (dwC w 5,Eng.bv true))
theorem dw_6 (w:Int):dwAt w 6:=(by kernel_rfl:T.path (dwP 6) (T.anon (dwE [Eng.iv w]))=some (dwC w 6,Eng.bv true))
theorem dw_7 (w:Int):dwAt w 7:=(by kernel_rfl:T.path (dwP 7) (T.anon (dwE [Eng.iv w]))=some (dwC w 7,Eng.bv true))
theorem dw_8 (w:Int):dwAt w 8:=(by kernel_rfl:T.path (dwP 8) (T.anon (dwE [Eng.iv w]))=some (dwC w 8,Eng.bv true))
theorem dw_9 (w:Int):dwAt w 9:=(by kernel_rfl:T.path (dwP 9) (T.anon (dwE [Eng.iv w]))=some (dwC w 9,Eng.bv true))
theorem YD (w:Int):dwAt w 10:=(by kernel_rfl:T.path (dwP 10) (T.anon (dwE [Eng.iv w]))=some (dwC w 10,Eng.bv true))
theorem XA (w:Int):dwAt w 11:=(by kernel_rfl:T.path (dwP 11) (T.anon (dwE [Eng.iv w]))=some (dwC w 11,Eng.bv true))
theorem VQ (w:Int):dwAt w 12:=(by kernel_rfl:T.path (dwP 12) (T.anon (dwE [Eng.iv w]))=some (dwC w 12,Eng.bv true))
theorem XE (w:Int):dwAt w 13:=(by kernel_rfl:T.path (dwP 13) (T.anon (dwE [Eng.iv w]))=some (dwC w 13,Eng.bv true))
theorem VW (w:Int):dwAt w 14:=(by kernel_rfl:T.path (dwP 14) (T.anon (dwE [Eng.iv w]))=some (dwC w 14,Eng.bv true))
theorem Wx (w:Int):dwAt w 15:=(by kernel_rfl:T.path (dwP 15) (T.anon (dwE [Eng.iv w]))=some (dwC w 15,Eng.bv true))
theorem Xr (w:Int):dwAt w 16:=(by kernel_rfl:T.path (dwP 16) (T.anon (dwE [Eng.iv w]))=some (dwC w 16,Eng.bv true))
theorem YP (w:Int):dwAt w 17:=(by kernel_rfl:T.path (dwP 17) (T.anon (dwE [Eng.iv w]))=some (dwC w 17,Eng.bv true))
theorem Qj (w:Int):∀ J:Nat,J<18->dwAt w J:=by
 intro J h
 match J,h with
 | 0,_=>exact dw_0 w
 | 1,_=>exact dw_1 w
 | 2,_=>exact dw_2 w
 | 3,_=>exact dw_3 w
 | 4,_=>exact dw_4 w
 | 5,_=>exact dw_5 w
 | 6,_=>exact dw_6 w
 | 7,_=>exact dw_7 w
 | 8,_=>exact dw_8 w
 | 9,_=>exact dw_9 w
 | 10,_=>exact YD w
 | 11,_=>exact XA w
 | 12,_=>exact VQ w
 | 13,_=>exact XE w
 | 14,_=>exact VW w
 | 15,_=>exact Wx w
 | 16,_=>exact Xr w
 | 17,_=>exact YP w
 | n+18,h=>omega
theorem QR (w:Int):0<=dwI w/\dwI w<18:=by
 have h0:0<=IntKind.wrap .u64 w:=by
  unfold IntKind.wrap
  exact Int.emod_nonneg _ (by decide)
 exact ⟨Int.tmod_nonneg 18 h0,Int.tmod_lt_of_pos (IntKind.wrap .u64 w) (by decide)⟩
theorem yF {α:Type} {f:α->Bool × Bool}:∀ {l:List α},(∀ x∈l,(f x).1=(f x).2)->eZ (l.map f)
 | [],_=>trivial
 | x::l,h=>⟨h x (by simp),yF fun y hy=>h y (List.mem_cons_of_mem _ hy)⟩
theorem Tq (w:Int):(dwE [Eng.iv w]).yes:=by
 obtain ⟨h0,h1⟩:=QR w
 obtain ⟨J,hJ⟩:∃ J:Nat,dwI w=(J:Int):=⟨(dwI w).toNat,by omega⟩
 have hw:dwAt w J:=Qj w J (by omega)
 unfold dwAt at hw
 have c:eZ (dwC w J):=by
  unfold dwC
  refine aO ⟨rfl,trivial⟩ (aO (yF fun j hj => ?_) ⟨decide_eq_true hJ,rfl,rfl,rfl,trivial⟩)
  have:=List.mem_range.1 hj
  exact decide_eq_false (by omega)
 refine Or.inr ?_
 rw [<- T.eval_anon (t:=dwE _),T.path_eval hw c];rfl
theorem words_walk (x:Int) (wx:(Lit.int .i64 x).wf=true) (w:World) (hG:Glob w) :
  Calls Tryz.prog 4 #[.int .i64 x] w fun e w'=>e=.returned (.bool true)/\Below w.heap.size w w' :=
 Law.E5 (args:=[Eng.iv x]) (xs:=[.int .i64 x]) Tw rfl (Tq x) w ⟨rfl,trivial⟩ hG
end Go.Proofs.YtncmdfdppmfeeaaGreatDoor.Dsk
