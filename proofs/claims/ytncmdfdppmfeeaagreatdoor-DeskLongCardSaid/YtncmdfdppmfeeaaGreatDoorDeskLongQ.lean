import Derived.Test.YtncmdfdppmfeeaaGreatDoorRows
import Derived.OpenShut
import Derived.LaidMore
import Derived.Lay
import Derived.Lib.LaidTab
import Derived.Stop.LaidErr
import Derived.Shelf.Vars
import Derived.Test.YtncmdfdppmfeeaaGreatDoorHT
namespace Go.Proofs.YtncmdfdppmfeeaaGreatDoor.Law.Gl
open Go.Joins Go.ChangeShapes Go.WideShapes Go.ChangeAt Go.RowKit Go.Deep
set_option linter.unusedVariables false
variable {H:Type} {enc:TypeId × Value->H}
theorem of_change_and {a:Assume} {C:Checked} {os:Os} {f:FuncId} {fn:Func} {s:ChangeSpec} {conds:List PathCond} {apart fresh handsOn again:Bool} {X:World->Array Value->Prop}
  (hX:∀ (w w':World) (args:Array Value),w.heap=w'.heap->X w args->X w' args)
  (own:ownKnob C.prog.godebug=none) (started:os.Started) (noInit:C.prog.inits.idxOf? f=none) (hfn:C.prog.funcs[f]?=some fn)
  (witness:∃ (w:World) (tape:Tape) (i:Input),w.os=os/\(w.forCall tape i).Shaped C.prog/\i.vars=[]/\Input.okWide C.prog (w.forCall tape i) .any w.heap.size f i /\
   ((s.pre enc C.prog fn conds apart (w.forCall tape i).memory i.args/\X (w.forCall tape i).memory i.args)/\sizedMet enc C.prog fn (OpenSpec.ofChange s) apart (w.forCall tape i).memory i.args)/\a.holds C.prog (lone (Frame.enter C.prog f i.args .normal) [] (w.forCall tape i)))
  (contract:∀ (W:World) (base:Nat) (args:Array Value) (ds gs:List (DataW H)) (before:List MemPlace),
   (∀ (j:Nat) t v,fn.params[j]?=some t->args[j]?=some v->Value.okWide C.prog W .any base t v) ->
   DataW.Whole enc C.prog fn.params.toList s.vars apart W args.toList ds gs before->X W args->W.ShapedOpen C.prog ->
   Calls C.prog f args W fun e W'=>∃ v,e=.returned v/\s.post enc C.prog fn apart fresh handsOn again W args v W') :
  ReturnsInHanded a C os f .any (fun w args=>(s.pre enc C.prog fn conds apart w args/\X w args)/\sizedMet enc C.prog fn (OpenSpec.ofChange s) apart w args) (s.post enc C.prog fn apart fresh handsOn again):=by
 refine returnsInHanded_of_calls own started noInit witness ?_
 intro w tape i _ hsh _ hok hpre _
 obtain ⟨_,_,_,fn',hfn',_,_,_,_,hval⟩:=hok
 obtain rfl:fn'=fn:=Option.some.inj (hfn'.symm.trans hfn)
 obtain ⟨⟨⟨ds,gs,before,hw,_⟩,hx⟩,_⟩:=hpre
 have hw':=DataW.Whole.of_heap (w':=w.forCall tape i) (by rfl) hw
 refine (contract (w.forCall tape i) w.heap.size i.args ds gs before hval hw' (hX _ _ _ (by rfl) hx) hsh).mono fun e W' ⟨v,he,hp⟩ => ?_
 subst he
 exact ChangeSpec.post_blind hp
theorem Zp {W:World} {rest:List (String × DataW Unit)} (h3:laidMet Tryz.prog (("internal/strconv.uint64pow10",Lib.tabData .u64 Lib.pow10Tab)::rest) W) (hsh:W.ShapedOpen Tryz.prog):Eng.Glob W:=by
 have ht:Lib.TabIs Tryz.prog W "internal/strconv.uint64pow10" .u64 Lib.pow10Tab:=Lib.tabIs_of_head (g:=1) (by kernel_rfl) (t:=((Tryz.prog.globals[1]?).map (·.type)).getD 0) (by kernel_rfl) (n:=20) (e:=164) (by kernel_rfl) (by kernel_rfl) (by kernel_rfl) (by kernel_rfl) h3
 refine ⟨?_,?_,?_⟩
 ·obtain ⟨cs,hh,-⟩:=hsh.1 (8 - 1) ((((begin Tryz.prog (fun _ _=>0) default).world.heap[8 - 1]?).bind Obj.row?).getD (#[],0)).1 ((((begin Tryz.prog (fun _ _=>0) default).world.heap[8 - 1]?).bind Obj.row?).getD (#[],0)).2 (of_decide_eq_true (by kernel_rfl)) (by kernel_rfl)
  have:=(Array.getElem?_eq_some_iff.1 hh).1
  show 8<=_
  omega
 ·unfold Lib.TabIs World.var? at ht
  rw [show Tryz.prog.globalNamed "internal/strconv.uint64pow10"=some 1 by kernel_rfl] at ht
  have ht:(match W.heap[1]? with | some (Obj.cells cs _ _)=>some cs | _=>none)=some (Lib.pow10Tab.map fun z=>Value.int .u64 z).toArray:=ht
  split at ht
  ·rename_i cs t s e
   obtain rfl:=Option.some.inj ht
   exact ⟨t,s,e⟩
  ·cases ht
 ·exact cell_of_shapedOpen_int (P:=Tryz.prog) (g:=0) (t:=3) (zero:=#[.int .i64 0]) hsh (of_decide_eq_true (by kernel_rfl)) (by kernel_rfl) rfl (by kernel_rfl) (by kernel_rfl) Tryz.underlying3
theorem glob {W:World} (hL:laidMetH Tryz.prog Rows.deskWordsRow.laid W) (hsh:W.ShapedOpen Tryz.prog):Eng.Glob W:=by
 rw [MakeChecks.laidMetH_plain _ _ _ (by kernel_rfl)] at hL
 exact Zp (rest:=[("unicode/utf8.acceptRanges",Rows.laid_unicode_utf8_acceptRanges),("unicode/utf8.first",Rows.laid_unicode_utf8_first)]) hL.tail.tail hsh
end Go.Proofs.YtncmdfdppmfeeaaGreatDoor.Law.Gl
namespace Go.Proofs.YtncmdfdppmfeeaaGreatDoor.Dsk
open Go.Eng Go.RowKit Go.Proofs.YtncmdfdppmfeeaaGreatDoor.Sys
set_option linter.unusedVariables false
set_option linter.unusedSimpArgs false
set_option maxRecDepth 100000
def Vb:ByteArray:=⟨#[112,111,100,115]⟩
def Jx:ByteArray:=⟨#[110,111,110,101]⟩
noncomputable def Q13:Cfg:=⟨Tryz.prog,lookG [(74,.obj Sys.seS),(78,.val (Eng.Spec.plain aaa))],[],0⟩
theorem Qj:Q13.Ok:=Cfg.ok ⟨Sys.IE,zX.plain,trivial⟩ trivial
noncomputable def lkP:Eng.Obj:=ay Q13 aa 35
theorem RZ:ObjOk Tryz.prog 35 lkP:=ae Qj cH Tryz.func35 (by kernel_rfl) (by kernel_rfl)
noncomputable def Q14:Cfg:=⟨Tryz.prog,lookG [(33,.val (Eng.Spec.plain rdX)),(35,.obj lkP)],[],0⟩
theorem Sf:Q14.Ok:=Cfg.ok ⟨IU.plain,RZ,trivial⟩ trivial
noncomputable def Nn:Eng.Obj:=ay Q14 aa 14
theorem Gb:ObjOk Tryz.prog 14 Nn:=ae Sf cH Tryz.func14 (by kernel_rfl) (by kernel_rfl)
theorem XK (s:SysS):T.path [true,false,false,true,true,true,true] (T.anon (Nn [.ptr 0 0,.s (.str Vb)] (eO N0 { s with ln:=0,lp:=[] })))=some ([(true,true),(false,false),(false,false),(true,true),(true,true),(true,true),(true,true)],(.s (.str Jx),eO N0 { s with ln:=0,lp:=[] })):=by (obtain ⟨c,t,z,px,w,aT,aS,aQ,aW,aP,aX,lo,nr,nfl,e0,e1,e2,e3,e4,e5,e6,nt,lm,ln,qd,qu,qn,d,rq,fl,tl,tm,lp,ql⟩:=s;cases qu<;>kernel_rfl)
def Zc:Eng.Obj:=fun args h=>match args with
 | [.ptr 0 0,.s (.str l)]=>opt (yZ N0 h) fun s=>.ite none (decide (l.data.toList=[112,111,100,115])&&(decide (s.lp.length=0)&&decide (s.ln=0))) (.ret (.s (.str Jx),h)) .fail
 | _=>.fail
theorem JK:ObjOk Tryz.prog 14 Zc:=Gb.of_eval fun args h r hv=>by
 unfold Zc at hv
 split at hv
 ·rename_i l
  obtain ⟨s,hd,hv1⟩:=ab hv
  clear hv
  have:=eY hd
  subst this
  obtain ⟨hc,hv2⟩:=ak hv1
  clear hv1
  rw [Bool.and_eq_true,Bool.and_eq_true] at hc
  have c1:=of_decide_eq_true hc.1
  have c2:s.lp=[]:=List.length_eq_zero_iff.1 (of_decide_eq_true hc.2.1)
  have c3:s.ln=0:=of_decide_eq_true hc.2.2
  obtain rfl:=Option.some.inj hv2
  have hl:l=Vb:=by
   obtain ⟨⟨x⟩⟩:=l
   have:x=[112,111,100,115]:=c1
   rw [this];rfl
  have hs:({ s with ln:=0,lp:=[] }:SysS)=s:=by rw [<- c2,<- c3]
  have w:=XK s
  rw [hs] at w
  rw [hl]
  exact (T.eval_anon (t:=Nn _ _)).symm.trans (T.path_eval w ⟨rfl,rfl,rfl,rfl,rfl,rfl,rfl,trivial⟩)
 ·cases hv
def BM (e:Bool):Nat->List UInt8
 | 0=>[]
 | i+1=>BM e i++(bif e&&Nat.beq (i % 3) 0 then [10] else [112,111,100,115,10])
def rC (e:Bool):Nat->List UInt8
 | 0=>[]
 | i+1=>rC e i++(bif e&&Nat.beq (i % 3) 0 then [] else [110,111,110,101,10])
def PB:List UInt8:=[101,114,114,111,114,10]
end Go.Proofs.YtncmdfdppmfeeaaGreatDoor.Dsk
namespace Go.Proofs.YtncmdfdppmfeeaaGreatDoor.Dsk
open Go.Eng Go.RowKit Go.Proofs.YtncmdfdppmfeeaaGreatDoor.Txt
set_option linter.unusedVariables false
set_option linter.unusedSimpArgs false
set_option maxRecDepth 100000
def ccZ:Eng.Obj:=fun args h=>match args,h with
 | [.ptr 0 0],[(0,.cells t [.nilPtr,.sub 1 1 0 n]),(1,.lst true t' [.int .u8] l)]=>if t=TB then .ret (.tup [],[(0,.cells t [.ptr 0 0,.sub 1 1 0 n]),(1,.lst true t' [.int .u8] l)]) else .fail
 | a,h=>ccS a h
theorem QK:ObjOk Tryz.prog 32 ccZ:=by
 refine ⟨⟨_,Tryz.func32,by kernel_rfl,by kernel_rfl⟩,fun args h v h' ν w hG hgs hok hb hr hv ho => ?_⟩
 unfold ccZ at hv
 split at hv
 ·rename_i t n t' l
  split at hv
  ·rename_i ht
   obtain ⟨rfl,rfl⟩:V.tup []=v/\[(0,Blk.cells t [.ptr 0 0,.sub 1 1 0 n]),(1,.lst true t' [.int .u8] l)]=h':=by
    have:=Option.some.inj hv
    exact ⟨congrArg Prod.fst this,congrArg Prod.snd this⟩
   obtain ⟨d0,d1,d2⟩:=hr.den 0 _ rfl
   obtain ⟨e0,e1⟩:=hr.den 1 (.lst true t' [.int .u8] l) rfl
   have d2:w.heap[(ν 0).core.blk]?=some (.cells #[.pointer none,(V.sub 1 1 0 n).den ν] t (0,0)):=d2
   have ea:(aB ν [.ptr 0 0]).toArray=#[.pointer (some ⟨(ν 0).core.blk,0,none⟩)]:=by simp [aB,V.den,d0]
   rw [ea]
   have hsh:w.shape? (ν 0).core.blk=some (t,2):=by simp [World.shape?,d2]
   refine (Any.Builder_copyCheck_fresh tL Tryz.Builder_Extra_156.toX72 _ w (by rw [Lib.cell_of_heap d2];rfl) (by rw [hsh,ht];rfl) (Lib.frozen_of_heap d2 0)).mono ?_
   rintro e w' ⟨rfl,rfl⟩
   have two:∀ i b,Eng.look [(0,Blk.cells t [.ptr 0 0,.sub 1 1 0 n]),(1,.lst true t' [.int .u8] l)] i=some b->(i=0/\b=.cells t [.ptr 0 0,.sub 1 1 0 n])\/(i=1/\b=.lst true t' [.int .u8] l):=by
    intro i b e
    simp only [Eng.look] at e
    split at e
    ·rename_i q
     exact .inl ⟨(by simpa using q:0=i).symm,(Option.some.inj e).symm⟩
    ·split at e
     ·rename_i q
      exact .inr ⟨(by simpa using q:1=i).symm,(Option.some.inj e).symm⟩
     ·cases e
   have dis:=hr.dis 0 1 (.cells t [.nilPtr,.sub 1 1 0 n]) (.lst true t' [.int .u8] l) (by decide) rfl rfl rfl
   have dis':=hr.dis 1 0 (.lst true t' [.int .u8] l) (.cells t [.nilPtr,.sub 1 1 0 n]) (by decide) rfl rfl rfl
   have own0:∀ k,(ν 0).fp k->dF ν [(0,Blk.cells t [.nilPtr,.sub 1 1 0 n]),(1,.lst true t' [.int .u8] l)] k:=fun k hk=>⟨0,_,rfl,rfl,hk⟩
   have own1:∀ k,(ν 1).fp k->dF ν [(0,Blk.cells t [.nilPtr,.sub 1 1 0 n]),(1,.lst true t' [.int .u8] l)] k:=fun k hk=>⟨1,_,rfl,rfl,hk⟩
   refine ⟨ν,rfl,fun _ _=>rfl,⟨fun i b e => ?_,fun i j bi bj ne ei ej _ k hk => ?_⟩,fun i b e k hk => ?_,rfl,rfl,rfl,?_,fun k hk hn => ?_⟩
   ·rcases two i b e with ⟨rfl,rfl⟩ | ⟨rfl,rfl⟩
    ·refine ⟨d0,d1,?_⟩
     rw [heap_setCell d2]
     simp [aB,V.den,d0]
    ·refine ⟨⟨e0.1,?_⟩,e1⟩
     rcases e0.2 with q | ⟨g,off,cap,cur,q1,q2,q3,q4⟩
     ·exact .inl q
     ·refine .inr ⟨g,off,cap,cur,q1,q2,?_,q4⟩
      have hg:g≠(ν 0).core.blk:=fun q=>by
       have h1:(ν 0).fp g:=(d1 g).2 q
       simp only [Value.slice.injEq] at q1
       exact dis g h1 ((e1 g).2 ⟨_,q1.1,rfl⟩)
      rw [eB hg];exact q3
   ·rcases two i bi ei with ⟨rfl,-⟩ | ⟨rfl,-⟩
    ·rcases two j bj ej with ⟨rfl,-⟩ | ⟨rfl,-⟩
     ·exact absurd rfl ne
     ·exact dis k hk
    ·rcases two j bj ej with ⟨rfl,-⟩ | ⟨rfl,-⟩
     ·exact dis' k hk
     ·exact absurd rfl ne
   ·rcases two i b e with ⟨rfl,-⟩ | ⟨rfl,-⟩
    ·exact .inl (own0 k hk)
    ·exact .inl (own1 k hk)
   ·simp [World.setCell]
   ·exact eB (fun q=>hn (own0 k ((d1 k).2 q))) _ _
  ·cases hv
 ·exact Hz.calls args h v h' ν w hG hgs hok hb hr hv ho
noncomputable def Q17:Cfg:=⟨Tryz.prog,lookG [(32,.obj ccZ)],[],0⟩
theorem QZ:Q17.Ok:=Cfg.ok ⟨QK,trivial⟩ trivial
noncomputable def wrZ:Eng.Obj:=ay Q17 aa 13
theorem Qk:ObjOk Tryz.prog 13 wrZ:=ae QZ cH Tryz.func13 (by kernel_rfl) (by kernel_rfl)
def vK (c:UInt8) (s:ByteArray):List (Row [.str]):=(show List ByteArray from (l7 c s.data.toList).map byA)
theorem wc (c:UInt8) (s:ByteArray):(vK c s).length=(l7 c s.data.toList).length:=List.length_map _
def Xb:Eng.Spec
 | [.s (.str s),.s (.str sep)]=>match sep.data.toList with
  | [c]=>.ite none (decide (s.size<4294967281)) (.ret (.orow 9 [.str] (vK c s))) .fail
  | _=>.fail
 | _=>.fail
theorem oM:∀ l:List (Row [.str]),aD [.str] l=List.map (fun x:ByteArray=>Value.string x) l
 | []=>rfl
 | a::r=>by
  rw [bu,oM r];rfl
theorem MC:SpecOk Tryz.prog 12 Xb:=by
 refine ⟨⟨_,Tryz.func12,by kernel_rfl,by kernel_rfl⟩,fun args v xs w hG hrow hv hrv hh => ?_⟩
 unfold Xb at hv
 split at hv
 ·rename_i s sep
  split at hv
  ·rename_i c hc
   obtain ⟨hb,hv⟩:=gA hv
   obtain rfl:=Option.some.inj hv
   have hs:=of_decide_eq_true hb
   have hsep:sep=⟨#[c]⟩:=by
    obtain ⟨⟨l⟩⟩:=sep
    have:l=[c]:=hc
    rw [this]
   obtain rfl:xs=[.string s,.string sep]:=dX (l:=[.s (.str s),.s (.str sep)]) rfl hh
   obtain ⟨m,hm⟩:=hG.len
   rw [hsep]
   refine (Any.strings_Split Tryz.lays146 (by kernel_rfl) s ⟨#[c]⟩ m w hs hm (Nat.le_refl 1)).mono ?_
   rintro e w' ⟨rfl,rfl⟩
   have hl:(vK c s).length=Lib.countB s ⟨#[c]⟩+1:=by
    have h1:=Lib.splitB_all ⟨#[c]⟩ (Nat.le_refl 1) 0 _ s rfl
    have h2:=congrArg List.length (jJ c s)
    rw [List.length_map,List.length_map] at h2
    rw [wc];omega
   have hle:=Lib.countB_le ⟨#[c]⟩ (Nat.le_refl 1) s.size s (Nat.le_refl _)
   have hxs:aD [.str] (vK c s)=(Lib.splitB ⟨#[c]⟩ 0 (Lib.countB s ⟨#[c]⟩) s).map Value.string:=by
    rw [oM,jJ]
    show List.map (fun x:ByteArray=>Value.string x) ((l7 c s.data.toList).map byA)=_
    rw [List.map_map];rfl
   refine ⟨_,rfl,⟨?_,Or.inr ⟨w.heap.size,0,Lib.countB s ⟨#[c]⟩+1,((Lib.splitB ⟨#[c]⟩ 0 (Lib.countB s ⟨#[c]⟩) s).map Value.string).toArray,?_,Nat.le_refl _,?_,?_,?_,?_,?_⟩⟩,Below.alloc (Below.refl _ _) (by omega) _⟩
   ·rw [ax]
   ·rw [hl]
   ·show (w.heap.push _)[w.heap.size]?=_
    rw [Array.getElem?_push_size];rfl
   ·rw [hl];exact Nat.le_refl _
   ·have:(140737488355328:Nat)<=maxLen:=by decide
    omega
   ·rw [List.size_toArray,<- hxs,ax,hl];simp
   ·rw [<- hxs,List.drop_zero]
    rw [<- ax]
    exact List.take_length
  ·cases hv
 ·cases hv
def aaT (s:ByteArray):Bool:=bif (!(s.toList==ByteArray.toList ⟨#[]⟩))==true&&true then (bif decide (((ByteArray.size ⟨#[10]⟩:Nat):Int)<=(s.size:Int))==true&&true then (decide (0<=Rin.wI ((s.size:Int) - ((ByteArray.size ⟨#[10]⟩:Nat):Int)))&&(decide (Rin.wI ((s.size:Int) - ((ByteArray.size ⟨#[10]⟩:Nat):Int))<=(s.size:Int))&&decide ((s.size:Int)<=(s.size:Int)))) else true) else true
def aaF (s:ByteArray):Bool:=bif !(s.toList==ByteArray.toList ⟨#[]⟩) then !(bif decide (((ByteArray.size ⟨#[10]⟩:Nat):Int)<=(s.size:Int)) then ByteArray.toList (ByteArray.extract s (Int.toNat (Rin.wI ((s.size:Int) - ((ByteArray.size ⟨#[10]⟩:Nat):Int)))) (Int.toNat (s.size:Int)))==ByteArray.toList ⟨#[10]⟩ else false) else false
theorem ZA (s:ByteArray):T.path [true,false] (T.anon (WE [.s (.str s)]))=some ([(aaT s,true),(aaF s,false)],Eng.iv ((s.data.toList.count 10:Nat):Int)):=by kernel_rfl
def aaf:Eng.Spec
 | [.s (.str s)]=>.ite none (decide (s.data.toList.getLast?=some 10)&&decide (s.size<=1000000)) (.ret (Eng.iv ((s.data.toList.count 10:Nat):Int))) .fail
 | _=>.fail
theorem MY:SpecOk Tryz.prog 10 aaf:=C8.of_eval fun args v hv=>by
 unfold aaf at hv
 split at hv
 ·rename_i s
  obtain ⟨hc,hv⟩:=ak hv
  obtain rfl:=Option.some.inj hv
  rw [Bool.and_eq_true] at hc
  have h1:=of_decide_eq_true hc.1
  have h2:=of_decide_eq_true hc.2
  obtain ⟨a,ha⟩:=List.getLast?_eq_some_iff.1 h1
  have hsz:s.size=a.length+1:=by
   have:s.size=s.data.toList.length:=rfl
   rw [this,ha];simp
  have w1:Rin.wI ((s.size:Int) - ((ByteArray.size ⟨#[10]⟩:Nat):Int))=(a.length:Int):=by
   have e:((ByteArray.size ⟨#[10]⟩:Nat):Int)=1:=rfl
   show IntKind.wrap .i64 _=_
   rw [e,wrap64_in (by omega) (by omega)];omega
  have n0:(s.toList==ByteArray.toList ⟨#[]⟩)=false:=by
   rw [Lib.toList_data,ha]
   have:ByteArray.toList ⟨#[]⟩=[]:=by rw [Lib.toList_data]
   rw [this];simp
  have ex:(ByteArray.extract s (Int.toNat ((a.length:Nat):Int)) (Int.toNat (s.size:Int))).toList=ByteArray.toList ⟨#[10]⟩:=by
   rw [Lib.toList_data,Lib.toList_data,Lib.extract_data,ha,hsz]
   simp
  have d1:decide (((ByteArray.size ⟨#[10]⟩:Nat):Int)<=(s.size:Int))=true:=decide_eq_true (by
   have e:((ByteArray.size ⟨#[10]⟩:Nat):Int)=1:=rfl
   rw [e];omega)
  refine (T.eval_anon (t:=WE _)).symm.trans (T.path_eval (ZA s) ⟨?_,?_,trivial⟩)
  ·unfold aaT
   rw [n0,d1,w1,decide_eq_true (show (0:Int)<=(a.length:Int) by omega),decide_eq_true (show (a.length:Int)<=(s.size:Int) by omega),decide_eq_true (Int.le_refl (s.size:Int))];rfl
  ·unfold aaF
   rw [n0,d1,w1,ex];simp
 ·cases hv
noncomputable def Q16:Cfg:=⟨Tryz.prog,lookG [(7,.val Uw),(8,.val Conf.ED),(9,.val Txt.iI),(10,.val aaf),(11,.obj (Eng.Obj.plainR Sys.neS)),(12,.val Xb),(14,.obj Zc),(13,.obj wrZ),(15,.obj Rt)],[xG],0⟩
theorem Jj:Q16.Ok:=Cfg.ok ⟨uU,Conf.C6,Txt.cF,MY,Sys.H9.plainR,MC,JK,Qk,uD,trivial⟩ Iz
end Go.Proofs.YtncmdfdppmfeeaaGreatDoor.Dsk
namespace Go.Proofs.YtncmdfdppmfeeaaGreatDoor.Dsk
open Go.Eng Go.RowKit Go.Proofs.YtncmdfdppmfeeaaGreatDoor.Sys
set_option linter.unusedVariables false
set_option linter.unusedSimpArgs false
set_option maxRecDepth 100000
noncomputable def Pr:Code:=cm Tryz.prog 6 0
def NR:Nm:=⟨264,265,266,276,277,278,267,268,269,270,271,272,273,274,275⟩
structure PRn where (s:SysS) (ps:List (Row [.str])) (n:Nat) (k:Int)
structure ARn where (z:Bool) (l:List (Row [.int .u8])) (nb:Nat) (i:Int)
abbrev SRn:List (Nat × Src):=[(263,.same),(264,.same),(265,.same),(266,.same),(276,.same),(277,.same),(278,.same),(267,.same),(268,.same),(269,.same),(270,.same),(271,.same),(272,.same),(273,.same),(274,.same),(275,.same),(327,.same),(5001,.cell 327 1),(391,.same)]
def zV (z:Bool):V:=match z with
 | true=>.ptr 327 0
 | false=>.nilPtr
def Wn (p:PRn) (a:ARn):List V:=[.ptr 263 0,.ptr 327 0,.sub 391 1 0 p.n,Eng.iv p.k,Eng.iv a.i]
def Wj (p:PRn) (a:ARn):List Blk:=xq NR p.s++[.cells 41 [zV a.z,.sub 5001 1 0 a.nb],.lst true 5 [.int .u8] a.l,.lst true 9 [.str] p.ps]
noncomputable def FRn (p:PRn) (a:ARn):St:=bO [8,10,39,40,41] (aG SRn) 5100 54 (Wn p a) (Wj p a)
noncomputable def Sy (p:PRn) (a:ARn):T (Ex × St):=T.anon (bg Q16 aa Pr [8,10,39,40,41] SRn 5000 5100 (bO [8,10,39,40,41] (aG SRn) 5100 54 (Wn p a) (Wj p a)))
noncomputable def aaK:Nat:=(au Pr).getD 0
theorem KM:au Pr=some aaK:=by kernel_rfl
def Kb:List V->List Blk->Option (PRn × ARn)
 | [.ptr 263 0,.ptr 327 0,.sub 391 1 0 n,.s (.int .i64 k),.s (.int .i64 i)],b=>match b.drop 16 with
  | [.cells t [.nilPtr,.sub 5001 1 0 nb],.lst true t' [.int .u8] l,.lst true t'' [.str] ps]=>if t=41/\t'=5/\t''=9 then (sI NR (b.take 16)).bind fun s=>some (⟨s,ps,n,k⟩,⟨false,l,nb,i⟩) else none
  | [.cells t [.ptr 327 0,.sub 5001 1 0 nb],.lst true t' [.int .u8] l,.lst true t'' [.str] ps]=>if t=41/\t'=5/\t''=9 then (sI NR (b.take 16)).bind fun s=>some (⟨s,ps,n,k⟩,⟨true,l,nb,i⟩) else none
  | _=>none
 | _,_=>none
theorem Fv (l:List V) (b:List Blk) (d:PRn × ARn) (h:Kb l b=some d):l=Wn d.1 d.2/\b=Wj d.1 d.2:=by
 unfold Kb at h
 split at h
 ·split at h
  ·rename_i hb
   split at h
   ·rename_i ht
    obtain ⟨rfl,rfl,rfl⟩:=ht
    obtain ⟨s,hs,h⟩:=Option.bind_eq_some_iff.1 h
    cases h
    refine ⟨rfl,?_⟩
    rw [<- List.take_append_drop 16 b,hb,hS hs];rfl
   ·cases h
  ·rename_i hb
   split at h
   ·rename_i ht
    obtain ⟨rfl,rfl,rfl⟩:=ht
    obtain ⟨s,hs,h⟩:=Option.bind_eq_some_iff.1 h
    cases h
    refine ⟨rfl,?_⟩
    rw [<- List.take_append_drop 16 b,hb,hS hs];rfl
   ·cases h
  ·cases h
 ·cases h
def gP (ps:List (Row [.str])) (i:Int):ByteArray:=List.getD ps (0+i.toNat) (Row.dflt [.str])
theorem Uz {ps:List (Row [.str])} {i:Int} (h:i.toNat<ps.length):(gP ps i:Row [.str])=ps[i.toNat]:=by
 show List.getD ps (0+i.toNat) (Row.dflt [.str])=_
 rw [Nat.zero_add,List.getD_eq_getElem?_getD,List.getElem?_eq_getElem h];rfl
def nlB:ByteArray:=Jx++⟨#[10]⟩
def nlI:List (Row [.int .u8]):=u8 (jU nlB)
def rnC (ps:List (Row [.str])) (n:Nat) (k i:Int) (e:Bool):List (Bool × Bool):=[(decide (i<k),true),(decide (0<=i)&&(decide (i<(n:Int))&&decide (0+i.toNat<ps.length)),true),(decide (0+i.toNat<ps.length),true),(!((gP ps i).toList==ByteArray.toList ⟨#[]⟩),e)]
theorem YF (z:Bool) (s:SysS) (ps:List (Row [.str])) (n:Nat) (k:Int) (l:List (Row [.int .u8])) (nb:Nat) (i:Int):T.path ([true,true,true,true]++[true,false,true]) (Sy ⟨s,ps,n,k⟩ ⟨z,l,nb,i⟩)=some (rnC ps n k i true++[(decide ((gP ps i).data.toList=[112,111,100,115])&&(decide (s.lp.length=0)&&decide (s.ln=0)),true),(false,false),(decide (0+nb<=l.length)&&decide (nb+nlB.size<=1000000),true)],(.normal,FRn ⟨s,ps,n,k⟩ ⟨true,(l.drop 0).take nb++nlI,nb+nlB.size,IntKind.wrap .i64 (i+1)⟩)):=by
 cases z
 all_goals ((obtain ⟨c,t,z,px,w,aT,aS,aQ,aW,aP,aX,lo,nr,nfl,e0,e1,e2,e3,e4,e5,e6,nt,lm,ln,qd,qu,qn,d,rq,fl,tl,tm,lp,ql⟩:=s;cases qu<;>kernel_rfl))
theorem Zs (z:Bool) (s:SysS) (ps:List (Row [.str])) (n:Nat) (k:Int) (l:List (Row [.int .u8])) (nb:Nat) (i:Int):T.path [true,true,true,false] (Sy ⟨s,ps,n,k⟩ ⟨z,l,nb,i⟩)=some (rnC ps n k i false,(.normal,FRn ⟨s,ps,n,k⟩ ⟨z,l,nb,IntKind.wrap .i64 (i+1)⟩)):=by
 cases z
 all_goals ((obtain ⟨c,t,z,px,w,aT,aS,aQ,aW,aP,aX,lo,nr,nfl,e0,e1,e2,e3,e4,e5,e6,nt,lm,ln,qd,qu,qn,d,rq,fl,tl,tm,lp,ql⟩:=s;cases qu<;>kernel_rfl))
theorem Rv (z:Bool) (s:SysS) (ps:List (Row [.str])) (n:Nat) (k:Int) (l:List (Row [.int .u8])) (nb:Nat) (i:Int):T.path [false] (Sy ⟨s,ps,n,k⟩ ⟨z,l,nb,i⟩)=some ([(decide (i<k),false)],(.exit 0,FRn ⟨s,ps,n,k⟩ ⟨z,l,nb,i⟩)):=by
 cases z
 all_goals ((obtain ⟨c,t,z,px,w,aT,aS,aQ,aW,aP,aX,lo,nr,nfl,e0,e1,e2,e3,e4,e5,e6,nt,lm,ln,qd,qu,qn,d,rq,fl,tl,tm,lp,ql⟩:=s;cases qu<;>kernel_rfl))
def yU (ps:List ByteArray):List Int:=ps.flatMap fun x=>if x.data.toList=[] then [] else [110,111,110,101,10]
structure okRn (p:PRn) (a:ARn):Prop where
 lp:p.s.lp.length=0
 ln:p.s.ln=0
 n:p.n=p.ps.length
 k:p.k=(p.ps.length:Int)
 k1:p.ps.length<=1000
 al:∀ x:ByteArray,x∈(show List ByteArray from p.ps)->x.data.toList=[112,111,100,115]\/x.data.toList=[]
 i0:0<=a.i
 i1:a.i<=p.k
 nb:a.nb=a.l.length
 l:a.l=yU ((show List ByteArray from p.ps).take a.i.toNat)
def lr (p:PRn) (a:ARn):Option ARn:=if a.i<p.k then some (if (gP p.ps a.i).data.toList=[] then ⟨a.z,a.l,a.nb,a.i+1⟩ else ⟨true,a.l++nlI,a.nb+5,a.i+1⟩) else none
def PR (p:PRn) (a:ARn):Nat:=(p.k - a.i).toNat
noncomputable def Ss (p:PRn) (a:ARn):T (Ex × St):=.ite none a.z (.ret (.exit 0,FRn p ⟨true,a.l,a.nb,a.i⟩)) (.ret (.exit 0,FRn p ⟨false,a.l,a.nb,a.i⟩))
theorem wE:∀ l:List ByteArray,(yU l).length<=5*l.length
 | []=>Nat.le_refl 0
 | x::l=>by
  have:=wE l
  unfold yU at this ⊢
  rw [List.flatMap_cons,List.length_append,List.length_cons]
  split
  ·simp only [List.length_nil];omega
  ·simp only [List.length_cons,List.length_nil];omega
theorem my {p:PRn} {a b:ARn} (h:okRn p a) (e:lr p a=some b):okRn p b/\PR p b<PR p a:=by
 obtain ⟨lp,ln,n,k,k1,al,i0,i1,nb,l⟩:=h
 unfold lr at e
 split at e
 ·rename_i hc
  have hi:a.i.toNat<(show List ByteArray from p.ps).length:=by show a.i.toNat<p.ps.length;omega
  have hg:gP p.ps a.i=(show List ByteArray from p.ps)[a.i.toNat]:=Uz hi
  have htk:(show List ByteArray from p.ps).take (a.i+1).toNat=(show List ByteArray from p.ps).take a.i.toNat++[(show List ByteArray from p.ps)[a.i.toNat]]:=by
   rw [show (a.i+1).toNat=a.i.toNat+1 by omega]
   exact List.take_succ_eq_append_getElem hi
  have hout:yU ((show List ByteArray from p.ps).take (a.i+1).toNat)=yU ((show List ByteArray from p.ps).take a.i.toNat)++if (gP p.ps a.i).data.toList=[] then [] else [110,111,110,101,10]:=by
   rw [htk,hg]
   unfold yU
   rw [List.flatMap_append]
   simp
  have hm:(p.k - (a.i+1)).toNat<(p.k - a.i).toNat:=by omega
  split at e
  ·rename_i q
   obtain rfl:=Option.some.inj e
   refine ⟨⟨lp,ln,n,k,k1,al,by show 0<=a.i+1;omega,by show a.i+1<=p.k;omega,nb,?_⟩,hm⟩
   show a.l=_
   rw [hout,if_pos q,List.append_nil];exact l
  ·rename_i q
   obtain rfl:=Option.some.inj e
   refine ⟨⟨lp,ln,n,k,k1,al,by show 0<=a.i+1;omega,by show a.i+1<=p.k;omega,?_,?_⟩,hm⟩
   ·show a.nb+5=(a.l++nlI).length
    rw [List.length_append,nb];rfl
   ·show a.l++nlI=_
    rw [hout,if_neg q,l];rfl
 ·cases e
theorem stRn (p:PRn) (a b:ARn) (h:de okRn p a=true) (e:lr p a=some b):de okRn p b=true/\PR p b<PR p a :=
 ⟨aN (my (cL h) e).1,(my (cL h) e).2⟩
theorem hrRn (p:PRn) (a:ARn) (h:de okRn p a=true):(∀ b,lr p a=some b->(Sy p a).eval=some (.normal,FRn p b))/\(lr p a=none->∀ r,(Ss p a).eval=some r->r.1≠.normal/\(Sy p a).eval=some r):=by
 have h0:=cL h
 obtain ⟨lp,ln,n,k,k1,al,i0,i1,nb,l⟩:=h0
 obtain ⟨s,ps,n',k'⟩:=p
 obtain ⟨z,l',nb',i⟩:=a
 refine ⟨fun b e => ?_,fun e r hr => ?_⟩
 ·unfold lr at e
  split at e
  ·rename_i hc
   have hc':i<k':=hc
   have n1:n'=ps.length:=n
   have k2:k'=(ps.length:Int):=k
   have k3:ps.length<=1000:=k1
   have i2:0<=i:=i0
   have hi:i.toNat<(show List ByteArray from ps).length:=by show i.toNat<ps.length;omega
   have hg:gP ps i=(show List ByteArray from ps)[i.toNat]:=Uz hi
   have w1:IntKind.wrap .i64 (i+1)=i+1:=wrap64_in (by omega) (by omega)
   have c1:(decide (0<=i)&&(decide (i<(n':Int))&&decide (0+i.toNat<ps.length)))=true:=by
    rw [decide_eq_true i2,decide_eq_true (show i<(n':Int) by omega),decide_eq_true (show 0+i.toNat<ps.length by omega)];rfl
   have c2:decide (0+i.toNat<ps.length)=true:=decide_eq_true (by omega)
   have hnil:ByteArray.toList ⟨#[]⟩=[]:=by rw [Lib.toList_data]
   by_cases q:(gP ps i).data.toList=[]
   ·rw [if_pos (show (gP (PRn.mk s ps n' k').ps (ARn.mk z l' nb' i).i).data.toList=[] from q)] at e
    obtain rfl:=Option.some.inj e
    have:=T.path_eval (Zs z s ps n' k' l' nb' i) ⟨decide_eq_true hc',c1,c2,by rw [Lib.toList_data,hnil,q];rfl,trivial⟩
    rw [this,w1]
   ·rw [if_neg (show ¬ (gP (PRn.mk s ps n' k').ps (ARn.mk z l' nb' i).i).data.toList=[] from q)] at e
    obtain rfl:=Option.some.inj e
    have hp:(gP ps i).data.toList=[112,111,100,115]:=by
     rcases al (gP ps i) (by rw [hg];exact List.getElem_mem hi) with r | r
     ·exact r
     ·exact absurd r q
    have nb1:nb'=l'.length:=nb
    have lb:=wE ((show List ByteArray from ps).take i.toNat)
    have l1:l'=yU ((show List ByteArray from ps).take i.toNat):=l
    have lt:((show List ByteArray from ps).take i.toNat).length<=ps.length:=by rw [List.length_take];exact Nat.min_le_right _ _
    have lb':l'.length<=5*ps.length:=by rw [l1];exact Nat.le_trans lb (Nat.mul_le_mul_left 5 lt)
    have sz:nlB.size=5:=rfl
    have lp0:s.lp.length=0:=lp
    have ln0:s.ln=0:=ln
    have:=T.path_eval (YF z s ps n' k' l' nb' i) (aY ⟨decide_eq_true hc',c1,c2,by rw [Lib.toList_data,hnil,hp];rfl,trivial⟩ ⟨by rw [hp,lp0,ln0];rfl,rfl,by rw [decide_eq_true (show 0+nb'<=l'.length by omega),decide_eq_true (show nb'+nlB.size<=1000000 by omega)];rfl,trivial⟩)
    rw [this,w1]
    have ht:(l'.drop 0).take nb'=l':=by rw [List.drop_zero,nb1,List.take_length]
    rw [ht];rfl
  ·cases e
 ·unfold lr at e
  split at e
  ·cases e
  ·rename_i hc
   cases z
   ·obtain rfl:=Option.some.inj (show some (Ex.exit 0,FRn ⟨s,ps,n',k'⟩ ⟨false,l',nb',i⟩)=some r from hr)
    exact ⟨by simp,T.path_eval (Rv false s ps n' k' l' nb' i) ⟨decide_eq_false hc,trivial⟩⟩
   ·obtain rfl:=Option.some.inj (show some (Ex.exit 0,FRn ⟨s,ps,n',k'⟩ ⟨true,l',nb',i⟩)=some r from hr)
    exact ⟨by simp,T.path_eval (Rv true s ps n' k' l' nb' i) ⟨decide_eq_false hc,trivial⟩⟩
noncomputable def Sm:bG:=kg [8,10,39,40,41] SRn 5000 5100 54 Kb (de okRn) lr Ss
theorem Od:LoopOk Q16 Pr Sm:=eS (vs:=Wn) (bs:=Wj) Jj cH (az _) Fv PR stRn fun p a h=>by
 rw [<- T.eval_anon (t:=bg _ _ _ _ _ _ _ _)]
 exact hrRn p a h
noncomputable def famRa:bG:=fun st=>(adoptC 327 1 5 [.int .u8] st).bind Sm
theorem vF:LoopOk Q16 Pr famRa:=Od.adoptC 327 1 5 [.int .u8]
noncomputable def TM:Eng.Spec:=aC Q16 (cJ [(aaK,famRa)]) 6
theorem MV:SpecOk Tryz.prog 6 TM:=et Jj cH Tryz.func6 (by kernel_rfl) (by kernel_rfl) (cN (c:=Pr) (by kernel_rfl) KM vF)
noncomputable def rqP (s:ByteArray):PRn:=⟨s0 { Conf.dflt with initial:=0 },vK 10 s,(vK 10 s).length,((vK 10 s).length:Nat)⟩
def rqA:ARn:=⟨false,[],0,0⟩
noncomputable def rqE (s:ByteArray):ARn:=df (lr (rqP s)) rqA
def VY (s:ByteArray):Bool:=decide (s.data.toList.getLast?=some 10)&&decide (s.size<=1000000)
theorem rq_w (z:Bool) (s:ByteArray):T.path [false,false,false,true,false,true,false,true,true,true,z,true] (T.anon (TM [.s (.str ⟨⟨jc⟩⟩),.s (.str s)]))=some ([(false,false),(false,false),(false,false),(true,true),(false,false),(VY s,true),(decide (300<((s.data.toList.count 10:Nat):Int)),false),(true,true),(decide (s.size<4294967281),true),(de okRn (rqP s) rqA,true),((rqE s).z,z),(Txt.byB (rqE s).l&&(decide ((rqE s).nb=(rqE s).l.length)&&decide (0<(rqE s).nb)),true)],.s (.str (lV (rqE s).l))):=by cases z<;>kernel_rfl
theorem rq_x (s:ByteArray):T.path [false,false,false,true,false,true,true] (T.anon (TM [.s (.str ⟨⟨jc⟩⟩),.s (.str s)]))=some ([(false,false),(false,false),(false,false),(true,true),(false,false),(VY s,true),(decide (300<((s.data.toList.count 10:Nat):Int)),true)],.s (.str ⟨⟨PB⟩⟩)):=by kernel_rfl
def flt (ls:List (List UInt8)):List UInt8:=ls.flatMap fun x=>x++[10]
theorem pG (x:List UInt8) (ls:List (List UInt8)):flt (x::ls)=x++10::flt ls:=by
 unfold flt
 rw [List.flatMap_cons];simp
theorem rh:∀ {ls:List (List UInt8)},(∀ x∈ls,(10:UInt8) ∉ x)->l7 10 (flt ls)=ls++[[]]
 | [],_=>rfl
 | x::ls,h=>by
  rw [pG,pv (h x (by simp)),rh fun y hy=>h y (List.mem_cons_of_mem _ hy)];rfl
theorem ny:∀ {ls:List (List UInt8)},(∀ x∈ls,(10:UInt8) ∉ x)->(flt ls).count 10=ls.length
 | [],_=>rfl
 | x::ls,h=>by
  rw [pG,List.count_append,List.count_cons_self,ny fun y hy=>h y (List.mem_cons_of_mem _ hy),List.count_eq_zero_of_not_mem (h x (by simp)),List.length_cons];omega
def nA (e:Bool) (k:Nat):List (List UInt8):=(List.range k).map fun i=>bif e&&Nat.beq (i % 3) 0 then [] else [112,111,100,115]
theorem sU (e:Bool) (k:Nat):nA e (k+1)=nA e k++[bif e&&Nat.beq (k % 3) 0 then [] else [112,111,100,115]]:=by
 unfold nA
 rw [List.range_succ,List.map_append];rfl
theorem il (e:Bool) (k:Nat):(nA e k).length=k:=by unfold nA;simp
theorem lE {e:Bool} {k:Nat} {x:List UInt8} (h:x∈nA e k):x=[112,111,100,115]\/x=[]:=by
 obtain ⟨i,_,rfl⟩:=List.mem_map.1 h
 cases e&&Nat.beq (i % 3) 0
 ·exact Or.inl rfl
 ·exact Or.inr rfl
theorem rb {e:Bool} {k:Nat}:∀ x∈nA e k,(10:UInt8) ∉ x:=fun x hx=>by
 rcases lE hx with rfl | rfl
 ·decide
 ·decide
theorem BL (e:Bool):∀ k:Nat,BM e k=flt (nA e k)
 | 0=>rfl
 | k+1=>by
  rw [sU]
  unfold BM flt
  rw [List.flatMap_append,BL e k]
  cases e&&Nat.beq (k % 3) 0<;>rfl
def zh (ls:List (List UInt8)):List UInt8:=ls.flatMap fun x=>if x=[] then [] else [110,111,110,101,10]
theorem Bi (e:Bool):∀ k:Nat,rC e k=zh (nA e k)
 | 0=>rfl
 | k+1=>by
  rw [sU]
  unfold rC zh
  rw [List.flatMap_append,Bi e k]
  cases e&&Nat.beq (k % 3) 0<;>rfl
theorem pg (ls:List (List UInt8)):zh (ls++[[]])=zh ls:=by
 unfold zh
 rw [List.flatMap_append];simp
theorem B6:∀ ls:List (List UInt8),(yU (ls.map Txt.byA)).map (fun n=>UInt8.ofNat n.toNat)=zh ls
 | []=>rfl
 | x::ls=>by
  have ih:=B6 ls
  unfold yU zh at ih ⊢
  rw [List.map_cons,List.flatMap_cons,List.map_append,List.flatMap_cons,ih]
  have e:(Txt.byA x).data.toList=x:=rfl
  rw [e]
  by_cases q:x=[]
  ·rw [if_pos q,if_pos q];rfl
  ·rw [if_neg q,if_neg q];rfl
theorem rZ:∀ ps:List ByteArray,Txt.byB (yU ps)=true
 | []=>rfl
 | x::ps=>by
  have ih:=rZ ps
  unfold yU at ih ⊢
  unfold Txt.byB at ih ⊢
  rw [List.flatMap_cons,List.all_append,ih]
  split<;>rfl
def CT (s:ByteArray):Prop:=∃ (e:Bool) (k:Nat),1<=k/\k<=309/\0<(zh (nA e k)).length/\s.data.toList=flt (nA e k)
def n7 (s:ByteArray):ByteArray:=⟨(zh (l7 10 s.data.toList)).toArray⟩
noncomputable def Z4:Eng.Spec
 | [.s (.str a),.s (.str s)]=>.ite none (decide (a.data.toList=jc)&&Dly.pB (CT s)) (.ite none (decide (300<((s.data.toList.count 10:Nat):Int))) (.ret (.s (.str ⟨⟨PB⟩⟩))) (.ret (.s (.str (n7 s))))) .fail
 | _=>.fail
theorem FV {ls:List (List UInt8)} (h:ls≠[]):(flt ls).getLast?=some 10:=by
 have e:ls=ls.dropLast++[ls.getLast h]:=(List.dropLast_concat_getLast h).symm
 rw [e]
 unfold flt
 rw [List.flatMap_append]
 simp
theorem flt_len:∀ {ls:List (List UInt8)},(∀ x∈ls,x.length<=4)->(flt ls).length<=5*ls.length
 | [],_=>Nat.le_refl 0
 | x::ls,h=>by
  have ih:=flt_len (ls:=ls) fun y hy=>h y (List.mem_cons_of_mem _ hy)
  have hx:=h x (by simp)
  rw [pG,List.length_append,List.length_cons,List.length_cons];omega
theorem JB:SpecOk Tryz.prog 6 Z4:=MV.of_eval fun args v hv=>by
 unfold Z4 at hv
 split at hv
 ·rename_i a s
  obtain ⟨hc,hv2⟩:=ak hv
  clear hv
  rw [Bool.and_eq_true] at hc
  have ha:a=⟨⟨jc⟩⟩:=by
   obtain ⟨⟨x⟩⟩:=a
   have:x=jc:=of_decide_eq_true hc.1
   rw [this]
  obtain ⟨e,k,k1,k2,k3,hs⟩:=Dly.lx hc.2
  subst ha
  have hne:nA e k≠[]:=fun q=>by
   have:=il e k
   rw [q] at this
   have:0=k:=this
   omega
  have hlen:s.size<=1545:=by
   have h1:=flt_len (ls:=nA e k) fun x hx=>by
    rcases lE hx with rfl | rfl<;>decide
   rw [il] at h1
   have:s.size=s.data.toList.length:=rfl
   rw [this,hs];omega
  have hlin:VY s=true:=by
   unfold VY
   rw [hs,FV hne,decide_eq_true rfl,decide_eq_true (show s.size<=1000000 by omega)];rfl
  have hcnt:s.data.toList.count 10=k:=by rw [hs,ny rb,il]
  cases q:decide (300<((s.data.toList.count 10:Nat):Int)) with
  | true =>
   obtain rfl:=Option.some.inj (Dec.gD hv2 q)
   exact (T.eval_anon (t:=TM _)).symm.trans (T.path_eval (rq_x s) ⟨rfl,rfl,rfl,rfl,rfl,hlin,q,trivial⟩)
  | false =>
   obtain rfl:=Option.some.inj (Dec.gz hv2 q)
   have hk:k<=300:=by
    have:=of_decide_eq_false q
    rw [hcnt] at this
    omega
   have hsp:l7 10 s.data.toList=nA e k++[[]]:=by rw [hs,rh rb]
   have hps:(show List ByteArray from vK 10 s)=(nA e k++[[]]).map Txt.byA:=by
    show (l7 10 s.data.toList).map Txt.byA=_
    rw [hsp]
   have hpl:(vK 10 s).length=k+1:=by rw [wc,hsp,List.length_append,il];rfl
   have h0:okRn (rqP s) rqA:=by
    refine ⟨rfl,rfl,rfl,rfl,by show (vK 10 s).length<=1000;omega,?_,Int.le_refl 0,by show (0:Int)<=(((vK 10 s).length:Nat):Int);omega,rfl,rfl⟩
    intro x hx
    have hx:x∈(nA e k++[[]]).map Txt.byA:=by rw [<- hps];exact hx
    obtain ⟨y,hy,rfl⟩:=List.mem_map.1 hx
    rcases List.mem_append.1 hy with hy | hy
    ·exact lE hy
    ·exact Or.inr (List.mem_singleton.1 hy)
   obtain ⟨e1,e2,_⟩:=dz (nxt:=lr (rqP s)) (I:=fun a=>okRn (rqP s) a) (μ:=PR (rqP s)) (fun a b h e=>my h e) h0
   have hl:(rqE s).l=yU ((nA e k++[[]]).map Txt.byA):=by
    unfold rqE
    revert e1 e2
    generalize df (lr (rqP s)) rqA=z
    intro e1 e2
    have he:¬ z.i<(rqP s).k:=by
     unfold lr at e2
     split at e2
     ·cases e2
     ·assumption
    have i1:=e1.i1
    have i0:=e1.i0
    have hk2:(rqP s).k=(((vK 10 s).length:Nat):Int):=rfl
    have hz:z.i.toNat=(vK 10 s).length:=by omega
    have:=e1.l
    rw [hz] at this
    have h3:(show List ByteArray from (rqP s).ps).take (vK 10 s).length=(nA e k++[[]]).map Txt.byA:=by
     rw [<- hps]
     exact List.take_length
    rw [h3] at this
    exact this
   have hnb:(rqE s).nb=(rqE s).l.length:=e1.nb
   have hout:=B6 (nA e k++[[]])
   rw [pg] at hout
   have hpos:0<(rqE s).l.length:=by
    rw [hl]
    have:=congrArg List.length hout
    rw [List.length_map] at this
    show 0<List.length (α:=Int) (yU ((nA e k++[[]]).map Txt.byA))
    rw [this];exact k3
   obtain ⟨z,hz⟩:∃ z,(rqE s).z=z:=⟨_,rfl⟩
   have run:=T.path_eval (rq_w z s) ⟨rfl,rfl,rfl,rfl,rfl,hlin,q,rfl,decide_eq_true (by omega),aN h0,hz,by rw [hl,rZ,<- hl,hnb,decide_eq_true rfl,decide_eq_true hpos];rfl,trivial⟩
   refine (T.eval_anon (t:=TM _)).symm.trans (run.trans ?_)
   have:lV (rqE s).l=n7 s:=by
    unfold lV n7
    rw [hl,hout,hsp,pg]
   rw [this]
 ·cases hv
end Go.Proofs.YtncmdfdppmfeeaaGreatDoor.Dsk
namespace Go.Proofs.YtncmdfdppmfeeaaGreatDoor.Dsk
open Go.Eng Go.RowKit
set_option linter.unusedVariables false
set_option linter.unusedSimpArgs false
set_option maxRecDepth 100000
noncomputable def Q18:Cfg:=⟨Tryz.prog,lookG [(5,.val Rin.Xt),(6,.val Z4)],[],0⟩
theorem Ir:Q18.Ok:=Cfg.ok ⟨BP,JB,trivial⟩ trivial
noncomputable def Vh:Code:=cm Tryz.prog 3 0
structure PLg where (e:Bool) (k:Int)
structure ALg where (s w:ByteArray) (i:Int)
def Wc (p:PLg) (a:ALg):List V:=[Eng.bv p.e,Eng.iv p.k,.s (.str a.s),.s (.str a.w),Eng.iv a.i]
def V4 (_:PLg) (_:ALg):List Blk:=[]
noncomputable def FLg (p:PLg) (a:ALg):St:=bO [1,5,6,7,8] (aG []) 100 40 (Wc p a) (V4 p a)
noncomputable def Pz (p:PLg) (a:ALg):T (Ex × St):=T.anon (bg Q18 aa Vh [1,5,6,7,8] [] 100 100 (bO [1,5,6,7,8] (aG []) 100 40 (Wc p a) (V4 p a)))
noncomputable def abN:Nat:=(au Vh).getD 0
theorem L5:au Vh=some abN:=by kernel_rfl
def Lx:List V->List Blk->Option (PLg × ALg)
 | [.s (.bool e),.s (.int .i64 k),.s (.str s),.s (.str w),.s (.int .i64 i)],[]=>some (⟨e,k⟩,⟨s,w,i⟩)
 | _,_=>none
theorem FQ (l:List V) (b:List Blk) (d:PLg × ALg) (h:Lx l b=some d):l=Wc d.1 d.2/\b=V4 d.1 d.2:=by
 unfold Lx at h
 split at h
 ·cases h;exact ⟨rfl,rfl⟩
 ·cases h
def wh (n:Nat):Bool:=decide ((n:Int)>IntKind.max .i64)
theorem vw {n:Nat} (h:n<=1000000):wh n=false:=decide_eq_false (by show ¬ (n:Int)>9223372036854775807;omega)
def tNl:ByteArray:=⟨#[10]⟩
def tPo:ByteArray:=⟨#[112,111,100,115,10]⟩
def tNo:ByteArray:=⟨#[110,111,110,101,10]⟩
theorem ZC (k i:Int) (s w:ByteArray):T.path [true,true,true,false,true,true,true,false] (Pz ⟨true,k⟩ ⟨s,w,i⟩)=some ([(decide (i<k),true),(true,true),(true,true),(false,false),(true,true),(true,true),(Int.tmod i 3==0,true),(wh (s.size+tNl.size),false)],(.normal,FLg ⟨true,k⟩ ⟨s++tNl,w,IntKind.wrap .i64 (i+1)⟩)):=by kernel_rfl
theorem Ys (k i:Int) (s w:ByteArray):T.path [true,true,true,false,true,true,false,false,false] (Pz ⟨true,k⟩ ⟨s,w,i⟩)=some ([(decide (i<k),true),(true,true),(true,true),(false,false),(true,true),(true,true),(Int.tmod i 3==0,false),(wh (s.size+tPo.size),false),(wh (w.size+tNo.size),false)],(.normal,FLg ⟨true,k⟩ ⟨s++tPo,w++tNo,IntKind.wrap .i64 (i+1)⟩)):=by kernel_rfl
theorem ZZ (k i:Int) (s w:ByteArray):T.path [true,false,false,false,false,false,false] (Pz ⟨false,k⟩ ⟨s,w,i⟩)=some ([(decide (i<k),true),(false,false),(false,false),(false,false),(false,false),(wh (s.size+tPo.size),false),(wh (w.size+tNo.size),false)],(.normal,FLg ⟨false,k⟩ ⟨s++tPo,w++tNo,IntKind.wrap .i64 (i+1)⟩)):=by kernel_rfl
theorem Ru (e:Bool) (k i:Int) (s w:ByteArray):T.path [false] (Pz ⟨e,k⟩ ⟨s,w,i⟩)=some ([(decide (i<k),false)],(.exit 0,FLg ⟨e,k⟩ ⟨s,w,i⟩)):=by cases e<;>kernel_rfl
structure okLg (p:PLg) (a:ALg):Prop where
 s:a.s.data.toList=BM p.e a.i.toNat
 w:a.w.data.toList=rC p.e a.i.toNat
 i0:0<=a.i
 i1:a.i<=p.k
 k1:p.k<=309
def lA (p:PLg) (a:ALg):Option ALg:=if a.i<p.k then some (bif p.e&&(Int.tmod a.i 3==0) then ⟨a.s++tNl,a.w,a.i+1⟩ else ⟨a.s++tPo,a.w++tNo,a.i+1⟩) else none
def PQ (p:PLg) (a:ALg):Nat:=(p.k - a.i).toNat
noncomputable def Uc (p:PLg) (a:ALg):T (Ex × St):=.ret (.exit 0,FLg p a)
theorem mod3 {i:Int} (h:0<=i):(Int.tmod i 3==0)=Nat.beq (i.toNat % 3) 0:=by
 have e:Int.tmod i 3=((i.toNat % 3:Nat):Int):=by
  rw [Int.tmod_eq_emod_of_nonneg h];omega
 rw [e]
 cases i.toNat % 3 with
 | zero=>rfl
 | succ n=>rfl
theorem rm (a b:ByteArray):(a++b).data.toList=a.data.toList++b.data.toList:=by
 simp
theorem Kn (e:Bool) (k:Nat):(BM e k).length<=5*k:=by
 have:=flt_len (ls:=nA e k) fun x hx=>by
  rcases lE hx with rfl | rfl<;>decide
 rw [il] at this
 rw [BL];exact this
theorem AY (e:Bool):∀ k:Nat,(rC e k).length<=5*k
 | 0=>Nat.le_refl 0
 | k+1=>by
  have:=AY e k
  unfold rC
  rw [List.length_append]
  cases e&&Nat.beq (k % 3) 0
  ·show (rC e k).length+5<=_;omega
  ·show (rC e k).length+0<=_;omega
theorem mN {p:PLg} {a b:ALg} (h:okLg p a) (e:lA p a=some b):okLg p b/\PQ p b<PQ p a:=by
 obtain ⟨s,w,i0,i1,k1⟩:=h
 unfold lA at e
 split at e
 ·rename_i hc
  obtain rfl:=Option.some.inj e
  have ht:(a.i+1).toNat=a.i.toNat+1:=by omega
  have hm:(p.k - (a.i+1)).toNat<(p.k - a.i).toNat:=by omega
  rw [mod3 i0]
  have hs:BM p.e (a.i.toNat+1)=BM p.e a.i.toNat++(bif p.e&&Nat.beq (a.i.toNat % 3) 0 then [10] else [112,111,100,115,10]):=rfl
  have hw:rC p.e (a.i.toNat+1)=rC p.e a.i.toNat++(bif p.e&&Nat.beq (a.i.toNat % 3) 0 then [] else [110,111,110,101,10]):=rfl
  revert hs hw
  cases p.e&&Nat.beq (a.i.toNat % 3) 0
  ·intro hs hw
   refine ⟨⟨?_,?_,by show 0<=a.i+1;omega,by show a.i+1<=p.k;omega,k1⟩,hm⟩
   ·show (a.s++tPo).data.toList=BM p.e (a.i+1).toNat
    rw [ht,hs,rm,s];rfl
   ·show (a.w++tNo).data.toList=rC p.e (a.i+1).toNat
    rw [ht,hw,rm,w];rfl
  ·intro hs hw
   refine ⟨⟨?_,?_,by show 0<=a.i+1;omega,by show a.i+1<=p.k;omega,k1⟩,hm⟩
   ·show (a.s++tNl).data.toList=BM p.e (a.i+1).toNat
    rw [ht,hs,rm,s];rfl
   ·show a.w.data.toList=rC p.e (a.i+1).toNat
    rw [ht,hw,w]
    exact (List.append_nil _).symm
 ·cases e
theorem stLg (p:PLg) (a b:ALg) (h:de okLg p a=true) (e:lA p a=some b):de okLg p b=true/\PQ p b<PQ p a :=
 ⟨aN (mN (cL h) e).1,(mN (cL h) e).2⟩
theorem hrLg (p:PLg) (a:ALg) (h:de okLg p a=true):(∀ b,lA p a=some b->(Pz p a).eval=some (.normal,FLg p b))/\(lA p a=none->∀ r,(Uc p a).eval=some r->r.1≠.normal/\(Pz p a).eval=some r):=by
 have h0:=cL h
 obtain ⟨hs,hw,i0,i1,k1⟩:=h0
 obtain ⟨e,k⟩:=p
 obtain ⟨s,w,i⟩:=a
 refine ⟨fun b hb => ?_,fun hb r hr => ?_⟩
 ·unfold lA at hb
  split at hb
  ·rename_i hc
   obtain rfl:=Option.some.inj hb
   have hc':i<k:=hc
   have i2:0<=i:=i0
   have k2:k<=309:=k1
   have w1:IntKind.wrap .i64 (i+1)=i+1:=wrap64_in (by omega) (by omega)
   have ss:s.size<=5*i.toNat:=by
    have e1:s.size=s.data.toList.length:=rfl
    have e2:s.data.toList=BM e i.toNat:=hs
    rw [e1,e2];exact Kn e i.toNat
   have ws:w.size<=5*i.toNat:=by
    have e1:w.size=w.data.toList.length:=rfl
    have e2:w.data.toList=rC e i.toNat:=hw
    rw [e1,e2];exact AY e i.toNat
   have b1:wh (s.size+tNl.size)=false:=vw (by have:tNl.size=1:=rfl;omega)
   have b2:wh (s.size+tPo.size)=false:=vw (by have:tPo.size=5:=rfl;omega)
   have b3:wh (w.size+tNo.size)=false:=vw (by have:tNo.size=5:=rfl;omega)
   cases e with
   | false =>
    have:=T.path_eval (ZZ k i s w) ⟨decide_eq_true hc',rfl,rfl,rfl,rfl,b2,b3,trivial⟩
    rw [this,w1];rfl
   | true =>
    cases q:(Int.tmod i 3==0) with
    | true =>
     have:=T.path_eval (ZC k i s w) ⟨decide_eq_true hc',rfl,rfl,rfl,rfl,rfl,q,b1,trivial⟩
     rw [this,w1];rfl
    | false =>
     have:=T.path_eval (Ys k i s w) ⟨decide_eq_true hc',rfl,rfl,rfl,rfl,rfl,q,b2,b3,trivial⟩
     rw [this,w1];rfl
  ·cases hb
 ·unfold lA at hb
  split at hb
  ·cases hb
  ·rename_i hc
   obtain rfl:=Option.some.inj hr
   exact ⟨by simp,T.path_eval (Ru e k i s w) ⟨decide_eq_false hc,trivial⟩⟩
noncomputable def US:bG:=kg [1,5,6,7,8] [] 100 100 40 Lx (de okLg) lA Uc
theorem Lz:LoopOk Q18 Vh US:=eS (vs:=Wc) (bs:=V4) Ir cH (az _) FQ PQ stLg fun p a h=>by
 rw [<- T.eval_anon (t:=bg _ _ _ _ _ _ _ _)]
 exact hrLg p a h
noncomputable def lngE:Eng.Spec:=aC Q18 (cJ [(abN,US)]) 3
theorem Jw:SpecOk Tryz.prog 3 lngE:=et Ir cH Tryz.func3 (by kernel_rfl) (by kernel_rfl) (cN (c:=Vh) (by kernel_rfl) L5 Lz)
def lgK (n:Int):Int:=IntKind.wrap .i64 (290+IntKind.wrap .i64 (Int.tmod (IntKind.wrap .u64 n) 20))
def lgP (e:Bool) (n:Int):PLg:=⟨e,lgK n⟩
def lgA:ALg:=⟨⟨#[]⟩,⟨#[]⟩,0⟩
noncomputable def lgE (e:Bool) (n:Int):ALg:=df (lA (lgP e n)) lgA
theorem lg_w (n:Int) (e:Bool):T.path [false,true,true,true,true] (T.anon (lngE [Eng.iv n,Eng.bv e]))=some ([(false,false),(de okLg (lgP e n) lgA,true),(decide (300<lgK n),true),(decide (jc=jc)&&Dly.pB (CT (lgE e n).s),true),(decide (300<(((lgE e n).s.data.toList.count 10:Nat):Int)),true)],Eng.bv (ByteArray.toList ⟨⟨PB⟩⟩==ByteArray.toList ⟨⟨PB⟩⟩)):=by kernel_rfl
theorem lg_v (n:Int) (e:Bool):T.path [false,true,false,true,false] (T.anon (lngE [Eng.iv n,Eng.bv e]))=some ([(false,false),(de okLg (lgP e n) lgA,true),(decide (300<lgK n),false),(decide (jc=jc)&&Dly.pB (CT (lgE e n).s),true),(decide (300<(((lgE e n).s.data.toList.count 10:Nat):Int)),false)],Eng.bv (ByteArray.toList (n7 (lgE e n).s)==ByteArray.toList (lgE e n).w)):=by kernel_rfl
theorem Dr (e:Bool):∀ k:Nat,0<(rC e (k+2)).length
 | 0=>by cases e<;>decide
 | k+1=>by
  have:=Dr e k
  show 0<(rC e (k+2)++_).length
  rw [List.length_append];omega
theorem PW (n:Int):290<=lgK n/\lgK n<=309:=by
 have h0:0<=IntKind.wrap .u64 n:=by
  unfold IntKind.wrap
  exact Int.emod_nonneg _ (by decide)
 have a:=Int.tmod_nonneg 20 h0
 have b:=Int.tmod_lt_of_pos (IntKind.wrap .u64 n) (show (0:Int)<20 by decide)
 unfold lgK
 rw [wrap64_in (n:=Int.tmod (IntKind.wrap .u64 n) 20) (by omega) (by omega),wrap64_in (by omega) (by omega)]
 omega
theorem JC (n:Int) (e:Bool):(lngE [Eng.iv n,Eng.bv e]).yes:=by
 obtain ⟨k0,k1⟩:=PW n
 have h0:okLg (lgP e n) lgA:=⟨rfl,rfl,Int.le_refl 0,by show (0:Int)<=lgK n;omega,k1⟩
 obtain ⟨e1,e2,_⟩:=dz (nxt:=lA (lgP e n)) (I:=fun a=>okLg (lgP e n) a) (μ:=PQ (lgP e n)) (fun a b h e=>mN h e) h0
 obtain ⟨K,hK,hs,hw⟩:∃ K:Nat,lgK n=(K:Int)/\(lgE e n).s.data.toList=BM e K/\(lgE e n).w.data.toList=rC e K:=by
  unfold lgE
  revert e1 e2
  generalize df (lA (lgP e n)) lgA=z
  intro e1 e2
  have hk:(lgP e n).k=lgK n:=rfl
  have he:¬ z.i<(lgP e n).k:=by
   unfold lA at e2
   split at e2
   ·cases e2
   ·assumption
  have i1:=e1.i1
  have i0:=e1.i0
  exact ⟨z.i.toNat,by omega,e1.s,e1.w⟩
 have hflt:(lgE e n).s.data.toList=flt (nA e K):=by rw [hs,BL]
 have hpos:0<(zh (nA e K)).length:=by
  have:=Dr e (K - 2)
  rw [show K - 2+2=K by omega,Bi] at this
  exact this
 have hscr:CT (lgE e n).s:=⟨e,K,by omega,by omega,hpos,hflt⟩
 have hcnt:(lgE e n).s.data.toList.count 10=K:=by rw [hflt,ny rb,il]
 have hg:(decide (jc=jc)&&Dly.pB (CT (lgE e n).s))=true:=by rw [decide_eq_true rfl,Dly.qC hscr];rfl
 refine Or.inr ?_
 rw [<- T.eval_anon (t:=lngE _)]
 by_cases q:300<lgK n
 ·have:=T.path_eval (lg_w n e) ⟨rfl,aN h0,decide_eq_true q,hg,decide_eq_true (by rw [hcnt];omega),trivial⟩
  rw [this]
  have:(ByteArray.toList ⟨⟨PB⟩⟩==ByteArray.toList ⟨⟨PB⟩⟩)=true:=by simp
  rw [this];rfl
 ·have:=T.path_eval (lg_v n e) ⟨rfl,aN h0,decide_eq_false q,hg,decide_eq_false (by rw [hcnt];omega),trivial⟩
  rw [this]
  have h1:ByteArray.toList (n7 (lgE e n).s)=rC e K:=by
   rw [Lib.toList_data]
   show zh (l7 10 (lgE e n).s.data.toList)=_
   rw [hflt,rh rb,pg,Bi]
  have h2:ByteArray.toList (lgE e n).w=rC e K:=by rw [Lib.toList_data,hw]
  have:(ByteArray.toList (n7 (lgE e n).s)==ByteArray.toList (lgE e n).w)=true:=by rw [h1,h2];simp
  rw [this];rfl
theorem long_walk (n:Int) (wn:(Lit.int .i64 n).wf=true) (e:Bool) (w:World) (hG:Glob w) :
  Calls Tryz.prog 3 #[.int .i64 n,.bool e] w fun r w'=>r=.returned (.bool true)/\Below w.heap.size w w' :=
 Law.G5 (args:=[Eng.iv n,Eng.bv e]) (xs:=[.int .i64 n,.bool e]) Jw rfl (JC n e) w ⟨rfl,rfl,trivial⟩ hG
end Go.Proofs.YtncmdfdppmfeeaaGreatDoor.Dsk
