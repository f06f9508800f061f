import Derived.Test.YtcbgmdpkhfahmaaGreatDoorRows
import Derived.OpenShut
import Derived.LaidMore
import Derived.Lay
import Derived.Lib.LaidTab
import Derived.Stop.LaidErr
import Derived.Shelf.Vars
import Derived.Test.YtcbgmdpkhfahmaaGreatDoorGY
import Derived.Test.YtcbgmdpkhfahmaaGreatDoorHQ
set_option linter.unusedVariables false
set_option linter.unusedSimpArgs false
set_option maxRecDepth 100000
noncomputable section
namespace Go.Proofs.YtcbgmdpkhfahmaaGreatDoor.Law.Gl
open Go.Joins Go.ChangeShapes Go.WideShapes Go.ChangeAt Go.RowKit Go.Deep
variable {H:Type} {enc:TypeId × Value->H}
theorem of_change_and {a:Assume} {C:Checked} {os:Os} {f:FuncId} {fn:Func} {s:ChangeSpec} {conds:List PathCond} {apart fresh handsOn again:Bool} {X:World->Array Value->Prop}
  (hX:∀ (w w':World) (args:Array Value),w.heap=w'.heap->X w args->X w' args)
  (own:ownKnob C.prog.godebug=none) (started:os.Started) (noInit:C.prog.inits.idxOf? f=none) (hfn:C.prog.funcs[f]?=some fn)
  (witness:∃ (w:World) (tape:Tape) (i:Input),w.os=os/\(w.forCall tape i).Shaped C.prog/\i.vars=[]/\Input.okWide C.prog (w.forCall tape i) .any w.heap.size f i /\
   ((s.pre enc C.prog fn conds apart (w.forCall tape i).memory i.args/\X (w.forCall tape i).memory i.args)/\sizedMet enc C.prog fn (OpenSpec.ofChange s) apart (w.forCall tape i).memory i.args)/\a.holds C.prog (lone (Frame.enter C.prog f i.args .normal) [] (w.forCall tape i)))
  (contract:∀ (W:World) (base:Nat) (args:Array Value) (ds gs:List (DataW H)) (before:List MemPlace),
   (∀ (j:Nat) t v,fn.params[j]?=some t->args[j]?=some v->Value.okWide C.prog W .any base t v) ->
   DataW.Whole enc C.prog fn.params.toList s.vars apart W args.toList ds gs before->X W args->W.ShapedOpen C.prog ->
   Calls C.prog f args W fun e W'=>∃ v,e=.returned v/\s.post enc C.prog fn apart fresh handsOn again W args v W') :
  ReturnsInHanded a C os f .any (fun w args=>(s.pre enc C.prog fn conds apart w args/\X w args)/\sizedMet enc C.prog fn (OpenSpec.ofChange s) apart w args) (s.post enc C.prog fn apart fresh handsOn again):=by
 refine returnsInHanded_of_calls own started noInit witness ?_;intro w tape i _ hsh _ hok hpre _;obtain ⟨_,_,_,fn',hfn',_,_,_,_,hval⟩:=hok;obtain rfl:fn'=fn:=AI (hfn'.symm.trans hfn);obtain ⟨⟨⟨ds,gs,before,hw,_⟩,hx⟩,_⟩:=hpre;have hw':=DataW.Whole.of_heap (w':=w.forCall tape i) (by rfl) hw;refine (contract (w.forCall tape i) w.heap.size i.args ds gs before hval hw' (hX _ _ _ (by rfl) hx) hsh).mono fun e W' ⟨v,he,hp⟩ => ?_;subst he;exact ChangeSpec.post_blind hp
theorem glob {W:World} {p:Prop} (hL:p) (hsh:W.ShapedOpen Tryz.prog):Eng.Glob W:=by
 refine ⟨?_,?_⟩
 ·obtain ⟨cs,hh,-⟩:=hsh.1 4 ((((begin Tryz.prog (fun _ _=>0) default).world.heap[4]?).bind Obj.row?).getD (#[],0)).1 ((((begin Tryz.prog (fun _ _=>0) default).world.heap[4]?).bind Obj.row?).getD (#[],0)).2 (IN (by kernel_rfl)) (by kernel_rfl);have:=(Array.getElem?_eq_some_iff.1 hh).1;show 5<=_;omega
 ·exact cell_of_shapedOpen_int (P:=Tryz.prog) (g:=0) (t:=3) (zero:=#[.int .i64 0]) hsh (IN (by kernel_rfl)) (by kernel_rfl) rfl (by kernel_rfl) (by kernel_rfl) Tryz.underlying3
end Go.Proofs.YtcbgmdpkhfahmaaGreatDoor.Law.Gl
namespace Go.Proofs.YtcbgmdpkhfahmaaGreatDoor.Sys
open Go.Eng Go.RowKit Mil Rin
def loP (s:aq) (n:Int):aq:={ s with lo:=if 1000<s.lo+n then 1000 else s.lo+n }
def Nw (k n:Int) (s:aq):aq :=
 if k=1 then paD n s else if k=2 then arD n s else if k=3 then (if (s.nfl:Int)<=n then s else snD (fiP s n)) else if k=4 then (if (s.lp.length:Int)<=n then s else snD (crP s n)) else loP s n
def Uj (k n:Int) (s:aq):Int:=if k=3 then (if (s.nfl:Int)<=n then 7 else 0) else if k=4 then (if (s.lp.length:Int)<=n then 7 else 0) else 0
def evS (k n:Int) (x:ByteArray) (s:aq):aq:=if Evt.mayE k n x=true then Nw k n s else s
def evC (k n:Int) (x:ByteArray) (s:aq):Int:=if Evt.mayE k n x=true then Uj k n s else 1
structure J (k:Nat) (s:aq):Prop where
 si:SI 90000 s
 ci:CI (400*k) s
 rq:s.rq.length<=100*k
 t:s.t<=200*k
theorem J.mono {k l:Nat} {s:aq} (h:J k s) (hl:k<=l):J l s:=⟨h.si,h.ci.mono (by omega),by have:=h.rq;omega,by have:=h.t;omega⟩
theorem DH {k n:Int} {x:ByteArray} (h:Evt.mayE k n x=true) (h5:k≠5):(k=1/\1<=n/\n<=200)\/(k=2/\1<=n/\n<=100)\/(k=3/\0<=n)\/(k=4/\0<=n)\/(k=6/\1<=n/\n<=50):=by
 unfold Evt.mayE at h;rw [if_neg h5,AS] at h;have h:=h.2;unfold Evt.wit at h;split at h
 ·rename_i q;rw [AS,AT,AT] at h;exact .inl ⟨q,h⟩
 split at h
 ·rename_i q;rw [AS,AT,AT] at h;exact .inr (.inl ⟨q,h⟩)
 split at h
 ·rename_i q;rw [AS,AT,AT] at h;rcases q with q | q
  ·exact .inr (.inr (.inl ⟨q,h.1⟩))
  ·exact .inr (.inr (.inr (.inl ⟨q,h.1⟩)))
 split at h
 ·rename_i q;rw [AS,AT,AT] at h;exact .inr (.inr (.inr (.inr ⟨q,h⟩)))
 ·cases h
theorem I1 {n:Int} {s:aq} (h:pP n ⟨s,0⟩):((arD n s).rq.length:Int)=(s.rq.length:Int)+n:=(zP h).2 (fun a k=>(a.rq.length:Int)=(s.rq.length:Int)+k) (by simp) fun a k ha hp k0 kn hb=>by
 obtain ⟨i,l⟩:=qa ha (by omega);rw [sP i,l];omega
theorem adQ {a b:aq} (e:core b=core a):b.t=a.t:=by
 have:(core b).t=(core a).t:=congrArg aq.t e;exact this
theorem CI.lose {m:Nat} {s:aq} (h:CI m s) {n:Int} (n0:0<=n):CI m (loP s n):=by
 obtain ⟨h1,h2,h3,h4,h5,h6,h7⟩:=h;refine ⟨h1,h2,h3,h4,h5,?_,h7⟩;show 0<=(if 1000<s.lo+n then 1000 else s.lo+n)/\(if 1000<s.lo+n then 1000 else s.lo+n)<=1000;split<;>omega
def ah4 (k n:Int) (x:ByteArray) (s:aq):Prop:=k≠5/\∃ j,j<85/\J j s
theorem afH {j:Nat} {n:Int} {s:aq} (h:J j s) (hj:j<85) (n0:1<=n) (n1:n<=200):ac6 n s:=by
 have:=h.t;have:=h.rq;exact ⟨by omega,by omega,by omega,by omega,400*j,h.si,h.ci,by omega⟩
theorem Qz {j:Nat} {n:Int} {s:aq} (h:J j s) (hj:j<85) (n0:1<=n) (n1:n<=100):pP n ⟨s,0⟩:=by
 have:=h.rq;exact ⟨h.si,ai9 0,by show (0:Int)<=n;omega,by omega,by show (s.rq.length:Int)+(n - 0)<=90000;omega⟩
theorem Sg {s:aq} (h:SI 90000 s) {n:Int} (n0:0<=n) (n1:n<(s.lp.length:Int)):(crP s n).rq.length=s.rq.length:=by
 have q:=(zi h n0 n1).nr;have q2:=h.nr;have e:(crP s n).nr=s.nr:=rfl;omega
theorem XP {j:Nat} {k n:Int} {x:ByteArray} {s:aq} (h:J j s) (hj:j<85) (h5:k≠5):J (j+1) (evS k n x s):=by
 have hu:=h.mono (Nat.le_succ j);unfold evS;by_cases hm:Evt.mayE k n x=true
 case neg=>rw [if_neg hm];exact hu
 rw [if_pos hm];have ht:=h.t;have hr:=h.rq;unfold Nw;rcases DH hm h5 with ⟨rfl,n0,n1⟩ | ⟨rfl,n0,n1⟩ | ⟨rfl,n0⟩ | ⟨rfl,n0⟩ | ⟨rfl,n0,n1⟩
 ·rw [if_pos rfl];obtain ⟨_,i1,i2,i3,i4,_⟩:=Di (n:=n) (s:=s) (by omega) (by omega) (by omega) (by omega) h.si h.ci (by omega);exact ⟨i1,i2.mono (by omega),by omega,by omega⟩
 ·rw [if_neg (by decide),if_pos rfl];have ok:=Qz h hj n0 n1;have hc:=yA ok;have hl:=I1 ok;exact ⟨(zP ok).1,(h.ci.of hc).mono (by omega),by omega,by rw [adQ hc];omega⟩
 ·rw [if_neg (by decide),if_neg (by decide),if_pos rfl];split
  ·exact hu
  ·obtain ⟨_,i1,i2⟩:=GP h.si n0 (show n<(s.nfl:Int) by omega);have hc:core (snD (fiP s n))=core s:=by rw [fm i1,zo]
   exact ⟨(pv i1).2.1,(h.ci.of hc).mono (by omega),by rw [sP i1,i2];omega,by rw [adQ hc];omega⟩
 ·rw [if_neg (by decide),if_neg (by decide),if_neg (by decide),if_pos rfl];split
  ·exact hu
  ·have i1:=zi h.si n0 (show n<(s.lp.length:Int) by omega);have i2:=Sg h.si n0 (show n<(s.lp.length:Int) by omega);have hc:core (snD (crP s n))=core s:=by rw [fm i1,yD]
   exact ⟨(pv i1).2.1,(h.ci.of hc).mono (by omega),by rw [sP i1,i2];omega,by rw [adQ hc];omega⟩
 ·rw [if_neg (by decide),if_neg (by decide),if_neg (by decide),if_neg (by decide)];have i1:SI 90000 (loP s n):=h.si.side s.d s.z s.px s.w s.aT s.aS s.aQ s.aW s.aP s.aX _ s.nt s.tl s.tm;exact ⟨i1,(h.ci.lose (by omega)).mono (by omega),by show s.rq.length<=_;omega,by show s.t<=_;omega⟩
end Go.Proofs.YtcbgmdpkhfahmaaGreatDoor.Sys
namespace Go.Eng
open Go.RowKit
structure acp (hp h' h'':Heap) (σ:Nat->Nat):Prop where
 fix:∀ i,inH h' i=true->inH hp (σ i)=true->σ i=i
 inj:∀ i j,inH h' i=true->inH h' j=true->σ i=σ j->i=j
 old:∀ i b,look hp i=some b->b.owned=false->σ i=i
 lk:∀ j b',look h'' j=some b'->∃ i b,look h' i=some b/\j=σ i/\b'=b.ren σ
theorem vz {h:Heap} {i:Nat} {b:Blk} (e:look h i=some b):inH h i=true:=by unfold inH;rw [e];rfl
theorem aj.ren {P:Program} {f:Nat} {sp sp':Obj} (h:aj P f sp)
  (he:∀ args hp v' h'',(sp' args hp).eval=some (v',h'')->∃ v h' σ,(sp args hp).eval=some (v,h')/\i6 hp v h'=true/\v'=v.ren σ/\acp hp h' h'' σ):aj P f sp':=by
 refine ⟨h.body,fun args hp v' h'' ν w hG hF ha hb hr hv _ => ?_⟩;obtain ⟨v,h',σ,h1,ho,rfl,q⟩:=he args hp v' h'' hv;refine (h.calls args hp v h' ν w hG hF ha hb hr h1 ho).mono ?_;rintro e w' ⟨ν',rfl,hcore,hrel,hfp,hprog⟩;unfold i6 at ho;simp only [AS,ai5] at ho;obtain ⟨hvok,hbok⟩:=ho
 open Classical in
 let ν2:Env:=fun j=>if hx:∃ i,inH h' i=true/\σ i=j then ν' (Classical.choose hx) else ν' j
 have fA:∀ i,inH h' i=true->ν2 (σ i)=ν' i:=by
  intro i hi;have hx:∃ i',inH h' i'=true/\σ i'=σ i:=⟨i,hi,rfl⟩
  have e1:ν2 (σ i)=ν' (Classical.choose hx):=dif_pos hx;obtain ⟨c1,c2⟩:=Classical.choose_spec hx;rw [e1,q.inj _ _ c1 hi c2]
 have fC:∀ i,inH hp i=true->ν2 i=ν' i:=by
  intro i hi;by_cases hx:∃ i',inH h' i'=true/\σ i'=i
  ·have e1:ν2 i=ν' (Classical.choose hx):=dif_pos hx;obtain ⟨c1,c2⟩:=Classical.choose_spec hx;have c3:=q.fix _ c1 (by rw [c2];exact hi);rw [e1,<- c3,c2]
  ·exact dif_neg hx
 have fB:∀ i,inO hp h' i=true->(ν2 (σ i)).core=(ν' i).core:=by
  intro i hi;cases hh:inH h' i with
  | true=>rw [fA i hh]
  | false =>
   unfold inO at hi;rw [hh,Bool.false_or] at hi;cases hl:look hp i with
   | none=>rw [hl] at hi;cases hi
   | some b =>
    rw [hl] at hi;have hb':b.owned=false:=by simpa using hi
    rw [q.old i b hl hb',fC i (vz hl)]
 have fO:∀ i b,look h' i=some b->b.ok (inO hp h')=true:=fun i b e=>(hbok _ (ar e)).1.2;refine ⟨ν2,by rw [V.aiF fB v hvok],fun i hi=>by rw [fC i hi];exact hcore i hi,⟨fun j b' e => ?_,fun i j bi bj ne ei ej hoi k hk hk' => ?_⟩,fun j b' e k hk => ?_,hprog⟩
 ·obtain ⟨i,b,e1,rfl,rfl⟩:=q.lk j b' e;have es:=fA i (vz e1);exact Blk.aiF (p:=inO hp h') fB (by rw [es]) (by rw [es]) (fO i b e1) (hrel.den i b e1)
 ·obtain ⟨i1,b1,e1,rfl,rfl⟩:=q.lk i bi ei;obtain ⟨j1,b2,e2,rfl,rfl⟩:=q.lk j bj ej;rw [fA i1 (vz e1)] at hk;rw [fA j1 (vz e2)] at hk';rw [Blk.aiC] at hoi;exact hrel.dis i1 j1 b1 b2 (fun e=>ne (by rw [e])) e1 e2 hoi k hk hk'
 ·obtain ⟨i,b,e1,rfl,rfl⟩:=q.lk j b' e;rw [fA i (vz e1)] at hk;exact hfp i b e1 k hk
theorem II {h:Heap} (hn:(h.map Prod.fst).Nodup) {i:Nat} {b:Blk} (hm:(i,b)∈h):look h i=some b:=by
 induction h with
 | nil=>cases hm
 | cons y r ih =>
  obtain ⟨j,c⟩:=y;rw [List.map_cons,List.nodup_cons] at hn;simp only [look];rcases aja.1 hm with q | q
  ·cases q;simp
  ·have:j≠i:=fun e=>hn.1 (by rw [e];exact List.mem_map.2 ⟨_,q,rfl⟩);have hj:(j==i)=false:=by simpa using this
   rw [hj];exact ih hn.2 q
theorem QP {hp h' h'':Heap} {σ:Nat->Nat} (hn:(h'.map Prod.fst).Nodup) (hp'':h''.Perm (h'.map fun p=>(σ p.1,p.2.ren σ)))
  (hf:∀ i∈h'.map Prod.fst,inH hp (σ i)=true->σ i=i) (hi:∀ i∈h'.map Prod.fst,∀ j∈h'.map Prod.fst,σ i=σ j->i=j) (ho:∀ p∈hp,p.2.owned=true):acp hp h' h'' σ:=by
 have key:∀ i,inH h' i=true->i∈h'.map Prod.fst:=fun i h=>by
  unfold inH at h;obtain ⟨b,hb⟩:=ajf.1 h;exact List.mem_map.2 ⟨_,ar hb,rfl⟩
 refine ⟨fun i h1 h2=>hf i (key i h1) h2,fun i j h1 h2 e=>hi i (key i h1) j (key j h2) e,fun i b e hb => ?_,fun j b' e => ?_⟩
 ·have:=ho _ (ar e);rw [show b.owned=true from this] at hb;cases hb
 ·have hm:(j,b')∈h'.map fun p=>(σ p.1,p.2.ren σ):=hp''.subset (ar e);obtain ⟨p,hp1,hp2⟩:=List.mem_map.1 hm;simp only [IT] at hp2;exact ⟨p.1,p.2,II hn hp1,hp2.1.symm,hp2.2.symm⟩
end Go.Eng
namespace Go.Proofs.YtcbgmdpkhfahmaaGreatDoor.Sys
open Go.Eng Go.RowKit Mil Rin
def DL:Cfg:=⟨Tryz.prog,lookG [(18,.obj B4),(19,.val Evt.jU),(20,.obj paS),(21,.obj arS),(22,.obj fiS),(23,.obj crS)],[],0⟩
theorem afo:DL.Ok:=Cfg.ok ⟨eU,Evt.dt,Zh,Mz,Zi,W8,trivial⟩ trivial
def doL:Eng.Obj:=aA DL aa 8
theorem Va:aj Tryz.prog 8 doL:=ae afo mixed Tryz.func8 (by kernel_rfl) (by kernel_rfl)
def evA (k n:Int) (x:ByteArray):V:=.agg [.s (.int .i64 k),.s (.int .i64 n),.s (.str x)]
def NA:Nm:=⟨1,2,3,5004,5005,5006,5007,5008,9,10,11,12,5013,14,15⟩
def ag2:List Nat->List Nat->Nat->Nat
 | x::r,y::q,i=>bif Nat.beq x i then y else ag2 r q i
 | _,_,i=>i
def sgN (K:Nm):Nat->Nat:=ag2 (0::K.all) (0::NA.all)
def chN (K:Nm):Bool:=decide (0::K.all).Nodup&&((0::K.all).all fun i => !(decide (sgN K i∈0::N0.all))||Nat.beq (sgN K i) i)&&decide ((0::K.all).map (sgN K)).Nodup
theorem zj (K:Nm) (s:aq):(aK K s).map Prod.fst=0::K.all:=rfl
theorem Qs (s:aq):∀ p∈aK N0 s,p.2.owned=true:=fun p hp=>ai5.1 (show (aK N0 s).all (fun p=>p.2.owned)=true from rfl) p hp
theorem YM {s:aq} {i:Nat} (h:inH (aK N0 s) i=true):i∈0::N0.all:=by
 unfold inH at h;obtain ⟨b,hb⟩:=ajf.1 h;rw [<- zj N0 s];exact List.mem_map.2 ⟨_,ar hb,rfl⟩
theorem map_inj {f:Nat->Nat}:∀ {l:List Nat},(l.map f).Nodup->∀ i∈l,∀ j∈l,f i=f j->i=j
 | [],_,i,hi,_,_,_=>by cases hi
 | x::r,h,i,hi,j,hj,e=>by
  rw [List.map_cons,List.nodup_cons] at h;rcases aja.1 hi with h1 | h1<;>rcases aja.1 hj with h2 | h2
  ·rw [h1,h2]
  ·exact absurd (List.mem_map.2 ⟨j,h2,by rw [<- e,h1]⟩) h.1
  ·exact absurd (List.mem_map.2 ⟨i,h1,by rw [e,h2]⟩) h.1
  ·exact map_inj h.2 i h1 j h2 e
theorem sV {K:Nm} {s s':aq} {h':Heap} (hk:chN K=true) (hp:h'.Perm (aK K s')) (hr:(aK K s').map (fun p=>(sgN K p.1,p.2.ren (sgN K)))=aK NA s'):acp (aK N0 s) h' (aK NA s') (sgN K):=by
 unfold chN at hk;simp only [AS,AT] at hk;obtain ⟨⟨k1,k2⟩,k3⟩:=hk;have pk:(h'.map Prod.fst).Perm (0::K.all):=by
  have:=hp.map Prod.fst
  rwa [zj] at this
 have mk:∀ i∈h'.map Prod.fst,i∈0::K.all:=fun i hi=>pk.subset hi;refine QP (pk.nodup_iff.2 k1) ?_ (fun i hi ho => ?_) (fun i hi j hj e=>map_inj k3 i (mk i hi) j (mk j hj) e) (Qs s)
 ·rw [<- hr];exact (hp.map _).symm
 ·have:=ai5.1 k2 i (mk i hi);rw [ajm] at this;rcases this with q | q
  ·rw [sh (YM ho)] at q;cases q
  ·exact ajj q
theorem Bi (k:Nat) (h:Heap):(bO k h).Perm h:=List.filter_append_perm _ _
def T1:Nm:=⟨1,2,3,4,56,57,58,59,9,10,11,12,60,14,15⟩
def T2:Nm:=⟨1,2,3,64,65,6,7,66,9,10,11,12,13,14,15⟩
def T3:Nm:=⟨1,2,3,4,72,6,7,73,9,10,11,12,13,14,15⟩
def T4:Nm:=⟨1,2,3,4,80,6,7,81,9,10,11,12,13,14,15⟩
def doQ (k n:Int) (x:ByteArray) (s:aq):T (V × Heap):=T.anon (doL [.ptr 0 0,evA k n x] (aK N0 s))
def loW (s:aq) (n:Int):aq:={ s with lo:=if 1000<IntKind.wrap .i64 (s.lo+n) then 1000 else IntKind.wrap .i64 (s.lo+n) }
theorem dl_m (k n:Int) (x:ByteArray) (s:aq):T.path [true] (doQ k n x s)=some ([(!Evt.mayE k n x,true)],(Eng.iv 1,aK N0 s)):=by (obtain ⟨c,t,z,px,w,aT,aS,aQ,aW,aP,aX,lo,nr,nfl,e0,e1,e2,e3,e4,e5,e6,nt,lm,ln,qd,qu,qn,d,rq,fl,tl,tm,lp,ql⟩:=s;cases qu<;>kernel_rfl)
theorem dl_1 (k n:Int) (x:ByteArray) (s:aq):T.path [false,true,true] (doQ k n x s)=some ([(!Evt.mayE k n x,false),(k==1,true),(Dly.pB (ac6 n s),true)],(Eng.iv 0,bO 16 (aK T1 (paD n s)))):=by (obtain ⟨c,t,z,px,w,aT,aS,aQ,aW,aP,aX,lo,nr,nfl,e0,e1,e2,e3,e4,e5,e6,nt,lm,ln,qd,qu,qn,d,rq,fl,tl,tm,lp,ql⟩:=s;cases qu<;>kernel_rfl)
theorem dl_2 (k n:Int) (x:ByteArray) (s:aq):T.path [false,false,true,true,true] (doQ k n x s)=some ([(!Evt.mayE k n x,false),(k==1,false),(k==2,true),(Dly.pB (pP n ⟨s,0⟩),true),((arD n s).qu.isSome,true)],(Eng.iv 0,bO 16 (aK T2 { arD n s with qu:=some ((arD n s).qu.getD 0) }))):=by (obtain ⟨c,t,z,px,w,aT,aS,aQ,aW,aP,aX,lo,nr,nfl,e0,e1,e2,e3,e4,e5,e6,nt,lm,ln,qd,qu,qn,d,rq,fl,tl,tm,lp,ql⟩:=s;cases qu<;>kernel_rfl)
theorem aej (k n:Int) (x:ByteArray) (s:aq):T.path [false,false,true,true,false] (doQ k n x s)=some ([(!Evt.mayE k n x,false),(k==1,false),(k==2,true),(Dly.pB (pP n ⟨s,0⟩),true),((arD n s).qu.isSome,false)],(Eng.iv 0,bO 16 (aK T2 { arD n s with qu:=none }))):=by (obtain ⟨c,t,z,px,w,aT,aS,aQ,aW,aP,aX,lo,nr,nfl,e0,e1,e2,e3,e4,e5,e6,nt,lm,ln,qd,qu,qn,d,rq,fl,tl,tm,lp,ql⟩:=s;cases qu<;>kernel_rfl)
theorem dl_3 (k n:Int) (x:ByteArray) (s:aq):T.path [false,false,false,true,true,false] (doQ k n x s)=some ([(!Evt.mayE k n x,false),(k==1,false),(k==2,false),(k==3,true),(Dly.pB (FF s n),true),(decide ((s.nfl:Int)<=n),false)],(Eng.iv 0,bO 16 (aK T3 (snD (fiP s n))))):=by (obtain ⟨c,t,z,px,w,aT,aS,aQ,aW,aP,aX,lo,nr,nfl,e0,e1,e2,e3,e4,e5,e6,nt,lm,ln,qd,qu,qn,d,rq,fl,tl,tm,lp,ql⟩:=s;cases qu<;>kernel_rfl)
theorem ae5 (k n:Int) (x:ByteArray) (s:aq):T.path [false,false,false,true,true,true] (doQ k n x s)=some ([(!Evt.mayE k n x,false),(k==1,false),(k==2,false),(k==3,true),(Dly.pB (FF s n),true),(decide ((s.nfl:Int)<=n),true)],(Eng.iv 7,aK N0 s)):=by (obtain ⟨c,t,z,px,w,aT,aS,aQ,aW,aP,aX,lo,nr,nfl,e0,e1,e2,e3,e4,e5,e6,nt,lm,ln,qd,qu,qn,d,rq,fl,tl,tm,lp,ql⟩:=s;cases qu<;>kernel_rfl)
theorem dl_4 (k n:Int) (x:ByteArray) (s:aq):T.path [false,false,false,false,true,true,false] (doQ k n x s)=some ([(!Evt.mayE k n x,false),(k==1,false),(k==2,false),(k==3,false),(k==4,true),(Dly.pB (On s n),true),(decide ((s.lp.length:Int)<=n),false)],(Eng.iv 0,bO 16 (aK T4 (snD (crP s n))))):=by (obtain ⟨c,t,z,px,w,aT,aS,aQ,aW,aP,aX,lo,nr,nfl,e0,e1,e2,e3,e4,e5,e6,nt,lm,ln,qd,qu,qn,d,rq,fl,tl,tm,lp,ql⟩:=s;cases qu<;>kernel_rfl)
theorem adP (k n:Int) (x:ByteArray) (s:aq):T.path [false,false,false,false,true,true,true] (doQ k n x s)=some ([(!Evt.mayE k n x,false),(k==1,false),(k==2,false),(k==3,false),(k==4,true),(Dly.pB (On s n),true),(decide ((s.lp.length:Int)<=n),true)],(Eng.iv 7,aK N0 s)):=by (obtain ⟨c,t,z,px,w,aT,aS,aQ,aW,aP,aX,lo,nr,nfl,e0,e1,e2,e3,e4,e5,e6,nt,lm,ln,qd,qu,qn,d,rq,fl,tl,tm,lp,ql⟩:=s;cases qu<;>kernel_rfl)
theorem dl_6 (k n:Int) (x:ByteArray) (s:aq):T.path [false,false,false,false,false,false,true] (doQ k n x s)=some ([(!Evt.mayE k n x,false),(k==1,false),(k==2,false),(k==3,false),(k==4,false),(k==5,false),(k==6,true)],(Eng.iv 0,aK N0 (loW s n))):=by (obtain ⟨c,t,z,px,w,aT,aS,aQ,aW,aP,aX,lo,nr,nfl,e0,e1,e2,e3,e4,e5,e6,nt,lm,ln,qd,qu,qn,d,rq,fl,tl,tm,lp,ql⟩:=s;cases qu<;>kernel_rfl)
def rnH (K:Nm) (s:aq):Heap:=(aK K s).map fun p=>(sgN K p.1,p.2.ren (sgN K))
theorem agW (s:aq):rnH N0 s=aK NA s:=by (obtain ⟨c,t,z,px,w,aT,aS,aQ,aW,aP,aX,lo,nr,nfl,e0,e1,e2,e3,e4,e5,e6,nt,lm,ln,qd,qu,qn,d,rq,fl,tl,tm,lp,ql⟩:=s;cases qu<;>kernel_rfl)
theorem rn_1 (s:aq):rnH T1 s=aK NA s:=by (obtain ⟨c,t,z,px,w,aT,aS,aQ,aW,aP,aX,lo,nr,nfl,e0,e1,e2,e3,e4,e5,e6,nt,lm,ln,qd,qu,qn,d,rq,fl,tl,tm,lp,ql⟩:=s;cases qu<;>kernel_rfl)
theorem ahu (s:aq):rnH T2 s=aK NA s:=by (obtain ⟨c,t,z,px,w,aT,aS,aQ,aW,aP,aX,lo,nr,nfl,e0,e1,e2,e3,e4,e5,e6,nt,lm,ln,qd,qu,qn,d,rq,fl,tl,tm,lp,ql⟩:=s;cases qu<;>kernel_rfl)
theorem rn_3 (s:aq):rnH T3 s=aK NA s:=by (obtain ⟨c,t,z,px,w,aT,aS,aQ,aW,aP,aX,lo,nr,nfl,e0,e1,e2,e3,e4,e5,e6,nt,lm,ln,qd,qu,qn,d,rq,fl,tl,tm,lp,ql⟩:=s;cases qu<;>kernel_rfl)
theorem rn_4 (s:aq):rnH T4 s=aK NA s:=by (obtain ⟨c,t,z,px,w,aT,aS,aQ,aW,aP,aX,lo,nr,nfl,e0,e1,e2,e3,e4,e5,e6,nt,lm,ln,qd,qu,qn,d,rq,fl,tl,tm,lp,ql⟩:=s;cases qu<;>kernel_rfl)
theorem ahW:chN N0=true:=by kernel_rfl
theorem ch_1:chN T1=true:=by kernel_rfl
theorem ag5:chN T2=true:=by kernel_rfl
theorem ch_3:chN T3=true:=by kernel_rfl
theorem ch_4:chN T4=true:=by kernel_rfl
theorem XX (a s:aq) (c:Int):i6 (aK N0 a) (Eng.iv c) (aK N0 s)=true:=by (obtain ⟨c,t,z,px,w,aT,aS,aQ,aW,aP,aX,lo,nr,nfl,e0,e1,e2,e3,e4,e5,e6,nt,lm,ln,qd,qu,qn,d,rq,fl,tl,tm,lp,ql⟩:=s;cases qu<;>kernel_rfl)
theorem adF (a s:aq) (c:Int):i6 (aK N0 a) (Eng.iv c) (bO 16 (aK T1 s))=true:=by (obtain ⟨c,t,z,px,w,aT,aS,aQ,aW,aP,aX,lo,nr,nfl,e0,e1,e2,e3,e4,e5,e6,nt,lm,ln,qd,qu,qn,d,rq,fl,tl,tm,lp,ql⟩:=s;cases qu<;>kernel_rfl)
theorem WB (a s:aq) (c:Int):i6 (aK N0 a) (Eng.iv c) (bO 16 (aK T2 s))=true:=by (obtain ⟨c,t,z,px,w,aT,aS,aQ,aW,aP,aX,lo,nr,nfl,e0,e1,e2,e3,e4,e5,e6,nt,lm,ln,qd,qu,qn,d,rq,fl,tl,tm,lp,ql⟩:=s;cases qu<;>kernel_rfl)
theorem acu (a s:aq) (c:Int):i6 (aK N0 a) (Eng.iv c) (bO 16 (aK T3 s))=true:=by (obtain ⟨c,t,z,px,w,aT,aS,aQ,aW,aP,aX,lo,nr,nfl,e0,e1,e2,e3,e4,e5,e6,nt,lm,ln,qd,qu,qn,d,rq,fl,tl,tm,lp,ql⟩:=s;cases qu<;>kernel_rfl)
theorem ae0 (a s:aq) (c:Int):i6 (aK N0 a) (Eng.iv c) (bO 16 (aK T4 s))=true:=by (obtain ⟨c,t,z,px,w,aT,aS,aQ,aW,aP,aX,lo,nr,nfl,e0,e1,e2,e3,e4,e5,e6,nt,lm,ln,qd,qu,qn,d,rq,fl,tl,tm,lp,ql⟩:=s;cases qu<;>kernel_rfl)
def aef (k n:Int) (x:ByteArray) (s:aq):Prop:=∃ h' σ,(doL [.ptr 0 0,evA k n x] (aK N0 s)).eval=some (Eng.iv (evC k n x s),h')/\i6 (aK N0 s) (Eng.iv (evC k n x s)) h'=true/\acp (aK N0 s) h' (aK NA (evS k n x s)) σ
theorem yx {k n:Int} {x:ByteArray} {s s':aq} {c:Int} (h:(doQ k n x s).eval=some (Eng.iv c,aK N0 s')) (hs:evS k n x s=s') (hc:evC k n x s=c):aef k n x s:=by
 subst hs;subst hc;exact ⟨_,sgN N0,by rw [<- T.aim (t:=doL _ _)];exact h,XX _ _ _,sV ahW (List.Perm.refl _) (agW _)⟩
theorem vx {k n:Int} {x:ByteArray} {s s':aq} {c:Int} {K:Nm} (h:(doQ k n x s).eval=some (Eng.iv c,bO 16 (aK K s'))) (hs:evS k n x s=s') (hc:evC k n x s=c) (hk:chN K=true) (hr:∀ s,rnH K s=aK NA s) (ho:∀ a s c,i6 (aK N0 a) (Eng.iv c) (bO 16 (aK K s))=true):aef k n x s:=by
 subst hs;subst hc;exact ⟨_,sgN K,by rw [<- T.aim (t:=doL _ _)];exact h,ho _ _ _,sV hk (Bi _ _) (hr _)⟩
theorem quS {a:aq} (h:a.qu.isSome=true):({ a with qu:=some (a.qu.getD 0) }:aq)=a:=by
 have:some (a.qu.getD 0)=a.qu:=by
  cases e:a.qu with
  | none=>rw [e] at h;cases h
  | some u=>rfl
 rw [this]
theorem quN {a:aq} (h:a.qu.isSome=false):({ a with qu:=none }:aq)=a:=by
 have:none=a.qu:=by
  cases e:a.qu with
  | none=>rfl
  | some u=>rw [e] at h;cases h
 rw [this]
theorem afq {j:Nat} {k n:Int} {x:ByteArray} {s:aq} (h:J j s) (hj:j<85) (h5:k≠5):aef k n x s:=by
 by_cases hm:Evt.mayE k n x=true
 case neg =>
  have hm':Evt.mayE k n x=false:=by simpa using hm
  exact yx (T.aik (dl_m k n x s) ⟨by rw [hm'];rfl,trivial⟩) (by unfold evS;rw [if_neg hm]) (by unfold evC;rw [if_neg hm])
 have eS:evS k n x s=Nw k n s:=by unfold evS;rw [if_pos hm]
 have eC:evC k n x s=Uj k n s:=by unfold evC;rw [if_pos hm]
 have hn:(!Evt.mayE k n x)=false:=by rw [hm];rfl
 rcases DH hm h5 with ⟨rfl,n0,n1⟩ | ⟨rfl,n0,n1⟩ | ⟨rfl,n0⟩ | ⟨rfl,n0⟩ | ⟨rfl,n0,n1⟩
 ·exact vx (T.aik (dl_1 1 n x s) ⟨hn,rfl,Dly.dh (afH h hj n0 n1),trivial⟩) eS eC ch_1 rn_1 adF
 ·have ok:=Qz h hj n0 n1;cases hq:(arD n s).qu.isSome with
  | true=>exact vx (T.aik (dl_2 2 n x s) ⟨hn,rfl,rfl,Dly.dh ok,hq,trivial⟩) (by rw [eS,quS hq];rfl) eC ag5 ahu WB
  | false=>exact vx (T.aik (aej 2 n x s) ⟨hn,rfl,rfl,Dly.dh ok,hq,trivial⟩) (by rw [eS,quN hq];rfl) eC ag5 ahu WB
 ·by_cases q:(s.nfl:Int)<=n
  ·exact yx (T.aik (ae5 3 n x s) ⟨hn,rfl,rfl,rfl,Dly.dh ⟨h.si,n0⟩,sh q,trivial⟩) (by rw [eS];unfold Nw;rw [if_neg (by decide),if_neg (by decide),if_pos rfl,if_pos q]) (by rw [eC];unfold Uj;rw [if_pos rfl,if_pos q])
  ·exact vx (T.aik (dl_3 3 n x s) ⟨hn,rfl,rfl,rfl,Dly.dh ⟨h.si,n0⟩,BY q,trivial⟩) (by rw [eS];unfold Nw;rw [if_neg (by decide),if_neg (by decide),if_pos rfl,if_neg q]) (by rw [eC];unfold Uj;rw [if_pos rfl,if_neg q]) ch_3 rn_3 acu
 ·by_cases q:(s.lp.length:Int)<=n
  ·exact yx (T.aik (adP 4 n x s) ⟨hn,rfl,rfl,rfl,rfl,Dly.dh ⟨h.si,n0⟩,sh q,trivial⟩) (by rw [eS];unfold Nw;rw [if_neg (by decide),if_neg (by decide),if_neg (by decide),if_pos rfl,if_pos q]) (by rw [eC];unfold Uj;rw [if_neg (by decide),if_pos rfl,if_pos q])
  ·exact vx (T.aik (dl_4 4 n x s) ⟨hn,rfl,rfl,rfl,rfl,Dly.dh ⟨h.si,n0⟩,BY q,trivial⟩) (by rw [eS];unfold Nw;rw [if_neg (by decide),if_neg (by decide),if_neg (by decide),if_pos rfl,if_neg q]) (by rw [eC];unfold Uj;rw [if_neg (by decide),if_pos rfl,if_neg q]) ch_4 rn_4 ae0
 ·have l0:=h.ci.lo;have hw:IntKind.wrap .i64 (s.lo+n)=s.lo+n:=wrap64_in (by omega) (by omega);have e:loW s n=loP s n:=by unfold loW loP;rw [hw]
  exact yx (T.aik (dl_6 6 n x s) ⟨hn,rfl,rfl,rfl,rfl,rfl,rfl,trivial⟩) (by rw [eS,e];rfl) eC
def doA:Eng.Obj:=fun args h=>match args with
 | [.ptr 0 0,.agg [.s (.int .i64 k),.s (.int .i64 n),.s (.str x)]]=>opt (pC N0 h) fun s=>.ite none (Dly.pB (ah4 k n x s)) (.ite none (evS k n x s).qu.isSome
   (.ret (Eng.iv (evC k n x s),aK NA { evS k n x s with qu:=some ((evS k n x s).qu.getD 0) })) (.ret (Eng.iv (evC k n x s),aK NA { evS k n x s with qu:=none }))) .fail
 | _=>.fail
theorem YC:aj Tryz.prog 8 doA:=Va.ren fun args h v' h'' hv=>by
 unfold doA at hv;split at hv
 ·rename_i k n x;obtain ⟨s,hd,hv1⟩:=ab hv;clear hv;have:=cE hd;subst this;obtain ⟨hc,hv2⟩:=ao hv1;clear hv1;obtain ⟨h5,j,hj,hJ⟩:=Dly.eI hc;obtain ⟨h',σ,r1,r2,r3⟩:=afq (k:=k) (n:=n) (x:=x) hJ hj h5;have key:v'=Eng.iv (evC k n x s)/\h''=aK NA (evS k n x s):=by
   cases hq:(evS k n x s).qu.isSome with
   | true =>
    rw [hq,quS hq] at hv2;have:=AI hv2;exact ⟨(congrArg Prod.fst this).symm,(congrArg Prod.snd this).symm⟩
   | false =>
    rw [hq,quN hq] at hv2;have:=AI hv2;exact ⟨(congrArg Prod.fst this).symm,(congrArg Prod.snd this).symm⟩
  obtain ⟨rfl,rfl⟩:=key;exact ⟨_,h',σ,r1,r2,rfl,r3⟩
 ·cases hv
def DS1:Cfg:=⟨Tryz.prog,lookG [(51,.val (Eng.Spec.aio Txt.afP)),(52,.obj Dec.agE),(53,.obj Que.DR),(46,.obj snS)],[],0⟩
theorem VZ:DS1.Ok:=Cfg.ok ⟨Txt.Cs.aio,Dec.QZ,Que.uA,vH,trivial⟩ trivial
def ZI:Eng.Obj:=aA DS1 aa 24
theorem vY:aj Tryz.prog 24 ZI:=ae VZ mixed Tryz.func24 (by kernel_rfl) (by kernel_rfl)
def DS2:Cfg:=⟨Tryz.prog,lookG [(18,.obj B4),(19,.val Evt.jU),(24,.obj ZI)],[],0⟩
theorem WK:DS2.Ok:=Cfg.ok ⟨eU,Evt.dt,vY,trivial⟩ trivial
def afD:Eng.Obj:=aA DS2 aa 8
theorem Dh:aj Tryz.prog 8 afD:=ae WK mixed Tryz.func8 (by kernel_rfl) (by kernel_rfl)
def dfC (s:aq):aq:={ s with c:=Conf.aiB }
def acS:List ByteArray:=[⟨#[120]⟩,⟨#[109,105,110,58,32,50,48,48]⟩,⟨#[116,97,114,103,101,116,58,32,48]⟩,⟨#[109,105,110,58,32,53,10,109,105,110,58,32,53]⟩,⟨#[112,97,110,105,99,58,32,57,57]⟩,⟨#[109,97,120,58,32,45,49]⟩]
def abk (j:Nat):Int:=[4,5,5,4,5,4].getD j 4
def oR (x:ByteArray) (s:aq):T (V × Heap):=T.anon (afD [.ptr 0 0,.agg [Eng.iv 5,Eng.iv 0,.s (.str x)]] (aK N0 (dfC s)))
theorem aeZ (s:aq):(oR ⟨#[120]⟩ s).eval=some (Eng.iv 4,aK N0 (dfC s)):=by (obtain ⟨c,t,z,px,w,aT,aS,aQ,aW,aP,aX,lo,nr,nfl,e0,e1,e2,e3,e4,e5,e6,nt,lm,ln,qd,qu,qn,d,rq,fl,tl,tm,lp,ql⟩:=s;cases qu<;>kernel_rfl)
theorem afY (s:aq):(oR ⟨#[109,105,110,58,32,50,48,48]⟩ s).eval=some (Eng.iv 5,aK N0 (dfC s)):=by (obtain ⟨c,t,z,px,w,aT,aS,aQ,aW,aP,aX,lo,nr,nfl,e0,e1,e2,e3,e4,e5,e6,nt,lm,ln,qd,qu,qn,d,rq,fl,tl,tm,lp,ql⟩:=s;cases qu<;>kernel_rfl)
theorem afS (s:aq):(oR ⟨#[116,97,114,103,101,116,58,32,48]⟩ s).eval=some (Eng.iv 5,aK N0 (dfC s)):=by (obtain ⟨c,t,z,px,w,aT,aS,aQ,aW,aP,aX,lo,nr,nfl,e0,e1,e2,e3,e4,e5,e6,nt,lm,ln,qd,qu,qn,d,rq,fl,tl,tm,lp,ql⟩:=s;cases qu<;>kernel_rfl)
theorem adW (s:aq):(oR ⟨#[109,105,110,58,32,53,10,109,105,110,58,32,53]⟩ s).eval=some (Eng.iv 4,aK N0 (dfC s)):=by (obtain ⟨c,t,z,px,w,aT,aS,aQ,aW,aP,aX,lo,nr,nfl,e0,e1,e2,e3,e4,e5,e6,nt,lm,ln,qd,qu,qn,d,rq,fl,tl,tm,lp,ql⟩:=s;cases qu<;>kernel_rfl)
theorem afw (s:aq):(oR ⟨#[112,97,110,105,99,58,32,57,57]⟩ s).eval=some (Eng.iv 5,aK N0 (dfC s)):=by (obtain ⟨c,t,z,px,w,aT,aS,aQ,aW,aP,aX,lo,nr,nfl,e0,e1,e2,e3,e4,e5,e6,nt,lm,ln,qd,qu,qn,d,rq,fl,tl,tm,lp,ql⟩:=s;cases qu<;>kernel_rfl)
theorem adk (s:aq):(oR ⟨#[109,97,120,58,32,45,49]⟩ s).eval=some (Eng.iv 4,aK N0 (dfC s)):=by (obtain ⟨c,t,z,px,w,aT,aS,aQ,aW,aP,aX,lo,nr,nfl,e0,e1,e2,e3,e4,e5,e6,nt,lm,ln,qd,qu,qn,d,rq,fl,tl,tm,lp,ql⟩:=s;cases qu<;>kernel_rfl)
def K8:ByteArray:=⟨#[116,97,114,103,101,116,58,32,55,46,53,10,117,116,105,108,58,32,48,46,53]⟩
def cG:Conf.Cf:=⟨7500,500,60,6,1,2000,10000,2000,0,0,1,30,0,20000,10,100,60,3,0,0⟩
def dG (d:Dec.DcS):Dec.DcS:=⟨cG,d.gm,d.om,d.s.res 60,d.q.res 6,0,d.a,d.n,d.l,d.si,if 100<d.mo then 100 else d.mo,d.la⟩
def gS (s:aq):aq:={ s with c:=cG,d:=dG s.d,qd:=100 }
def agf {α:Type}:Nat->T α->T α
 | 0,t=>t
 | n+1,.ite none c x y=>agf n (bif c then x else y)
 | _+1,_=>.fail
theorem uC {α:Type} {v:α}:∀ {n:Nat} {t:T α},(agf n t).eval=some v->t.eval=some v
 | 0,t,h=>h
 | n+1,.ite none c x y,h=>by
  have:=uC (n:=n) h;cases c
  ·exact this
  ·exact this
 | n+1,.ite (some _) _ _ _,h=>by cases h
 | n+1,.ret _,h=>by cases h
 | n+1,.fail,h=>by cases h
def T5:Nm:=⟨1,2,3,4,88,6,7,89,9,10,11,12,13,90,91⟩
theorem Yy (s:aq):T.path [true,true,false,true,true,false,true,false,false,true] (agf 103 (oR K8 s))=some ([((1:Int)==s.d.gm,true)]++(acM s.d.s 60++(acM s.d.q 6++[(false,false),(false,false),(Dly.pB (∃ B,SI B (gS s)),true)])),(Eng.iv 0,bO 16 (aK T5 (snD (gS s))))):=by (obtain ⟨c,t,z,px,w,aT,aS,aQ,aW,aP,aX,lo,nr,nfl,e0,e1,e2,e3,e4,e5,e6,nt,lm,ln,qd,qu,qn,d,rq,fl,tl,tm,lp,ql⟩:=s;cases qu<;>kernel_rfl)
def GK (s:aq):Conf.Cf × Int × Int × Int:=(s.c,s.d.gm,s.d.s.g,s.d.q.g)
theorem py {a b:aq} (h:core a=core b):GK a=GK b:=show GK (core a)=GK (core b) from congrArg GK h
theorem Rx:∀ {a b:List (Bool × Bool)},cu (a++b)->cu b
 | [],_,h=>h
 | _::a,_,h=>Rx (a:=a) h.2
theorem ae2 {s:aq} (h:SI 90000 s) (ok:UE s):GK (tkN s)=GK s:=by
 obtain ⟨m,h1,h2,h3,h4,h5⟩:=ok;have t0:=h.t0;have wt:IntKind.wrap .i64 (s.t+1)=s.t+1:=wrap64_in (by omega) (by omega);have i1:SI 90000 (tk1 s):=by
  unfold tk1;rw [wt];exact h.time (by omega) h5
 have hq:(tk1 s).ql=tkP s++tkQ s:=(List.takeWhile_append_dropWhile).symm;obtain ⟨k1,k2,k3,k4,k5,-⟩:=Cj i1 hq;have hA:tkA s=laD (tk1 s) (tkP s) (tkQ s):=by
  unfold tkA;have:(laD (tk1 s) (tkP s) (tkQ s)).qu=s.qu:=k5;rw [<- this]
 have gA:GK (tkA s)=GK s:=by
  have:GK (tkA s)=GK (tk1 s):=py (by rw [hA];exact k3);exact this
 obtain ⟨a,-⟩:=zy h1 h2 h3 h4 h5;unfold tiW at a;have a:=(Rx (Rx a)).2.2.2.2.2.2.1;obtain ⟨B,iE⟩:=Dly.eI a;have gZ:GK (tkZ (tB1 s) (tB2 s) (tB3 s) s)=GK (tkE (tB3 s) (tkY (tB1 s) (tB2 s) s)):=py (fm iE);have gE:∀ e x,GK (tkE e x)=GK x:=fun e x=>by cases e<;>rfl
 have gC:∀ e,GK (tkC e s)=GK (tkA s):=fun e=>by cases e<;>rfl
 have gG:∀ e x,GK (tkG e x)=GK x:=fun e x=>by cases e<;>rfl
 have gY:∀ e b,GK (tkY e b s)=GK (tkC e s):=fun e b=>rfl;unfold tkN;rw [gG,gZ,gE,gY,gC,gA]
theorem af2 {j:Nat} {k n:Int} {x:ByteArray} {s:aq} (h:J j s) (hj:j<85) (h5:k≠5):GK (evS k n x s)=GK s:=by
 unfold evS;by_cases hm:Evt.mayE k n x=true
 case neg=>rw [if_neg hm]
 rw [if_pos hm];have ht:=h.t;have hr:=h.rq;unfold Nw;rcases DH hm h5 with ⟨rfl,n0,n1⟩ | ⟨rfl,n0,n1⟩ | ⟨rfl,n0⟩ | ⟨rfl,n0⟩ | ⟨rfl,n0,n1⟩
 ·rw [if_pos rfl];obtain ⟨_,_,_,_,_,ind⟩:=Di (n:=n) (s:=s) (by omega) (by omega) (by omega) (by omega) h.si h.ci (by omega);exact ind (fun a _=>GK a=GK s) rfl fun a i ha e _ _ o=>(ae2 ha o).trans e
 ·rw [if_neg (by decide),if_pos rfl];exact py (yA (Qz h hj n0 n1))
 ·rw [if_neg (by decide),if_neg (by decide),if_pos rfl];split
  ·rfl
  ·obtain ⟨_,i1,_⟩:=GP h.si n0 (show n<(s.nfl:Int) by omega);exact py (by rw [fm i1,zo])
 ·rw [if_neg (by decide),if_neg (by decide),if_neg (by decide),if_pos rfl];split
  ·rfl
  ·have i1:=zi h.si n0 (show n<(s.lp.length:Int) by omega);exact py (by rw [fm i1,yD])
 ·rw [if_neg (by decide),if_neg (by decide),if_neg (by decide),if_neg (by decide)];rfl
def G1 (s:aq):Prop:=GK s=(Conf.aiB,1,1,1)
structure JD (k:Nat) (s:aq):Prop where
 j:J k s
 g:G1 s
theorem Pw {j:Nat} {k n:Int} {x:ByteArray} {s:aq} (h:JD j s) (hj:j<85) (h5:k≠5):JD (j+1) (evS k n x s):=⟨XP h.j hj h5,(af2 h.j hj h5).trans h.g⟩
theorem G1.c {s:aq} (h:G1 s):s.c=Conf.aiB:=congrArg (fun x=>x.1) h
theorem G1.gm {s:aq} (h:G1 s):s.d.gm=1:=congrArg (fun x=>x.2.1) h
theorem G1.sg {s:aq} (h:G1 s):s.d.s.g=1:=congrArg (fun x=>x.2.2.1) h
theorem G1.qg {s:aq} (h:G1 s):s.d.q.g=1:=congrArg (fun x=>x.2.2.2) h
theorem Nc {s:aq} (h:s.c=Conf.aiB):dfC s=s:=by unfold dfC;rw [<- h]
theorem Cp {k:Nat} {s:aq} (h:JD k s):(oR K8 s).eval=some (Eng.iv 0,bO 16 (aK T5 (snD (gS s))))/\SI 90000 (gS s):=by
 have i:=h.j.si
 have iG:SI 90000 (gS s) :=
  { ln:=i.ln,nr:=i.nr,nfl:=i.nfl,qn:=i.qn,lb:=i.lb,hB:=i.hB,sb:=by show Sub.okM 0=true;decide,li:=i.li,cn:=i.cn,qr:=i.qr,qs:=i.qs,q2:=i.q2,fr:=i.fr,fs:=i.fs,fq:=i.fq,fp:=i.fp,bp:=i.bp,e0:=i.e0,e1:=i.e1,e2:=i.e2,e3:=i.e3,e4:=i.e4,e5:=i.e5,e6:=i.e6,q1:=i.q1,f2:=i.f2,rs:=i.rs,t0:=i.t0,t1:=i.t1,qd:=by show (0:Int)<=100/\(100:Int)<=200;omega,qt:=i.qt,qv:=i.qv }
 obtain ⟨r1,q1⟩:=h.j.ci.dc.g.s;obtain ⟨r2,q2⟩:=h.j.ci.dc.g.q;obtain ⟨a1,_⟩:=q1.res (x:=60) (by rw [h.g.sg];decide) (by decide);obtain ⟨a2,_⟩:=q2.res (x:=6) (by rw [h.g.qg];decide) (by decide);refine ⟨uC (n:=103) (T.aik (Yy s) (au ⟨by rw [h.g.gm];rfl,trivial⟩ (au a1 (au a2 ⟨rfl,rfl,Dly.dh ⟨_,iG⟩,trivial⟩)))),iG⟩
def YA (s:aq):Prop:=∃ k,JD k s
def ac1:Eng.Obj:=fun args h=>match args with
 | [.ptr 0 0,.agg [.s (.int .i64 5),.s (.int .i64 0),.s (.str x)]]=>opt (pC N0 h) fun s=>.ite none (Dly.pB (YA s))
  (if x.data.toList=K8.data.toList then .ite none (snD (gS s)).qu.isSome (.ret (Eng.iv 0,bO 16 (aK T5 { snD (gS s) with qu:=some ((snD (gS s)).qu.getD 0) }))) (.ret (Eng.iv 0,bO 16 (aK T5 { snD (gS s) with qu:=none }))) else .fail) .fail
 | _=>.fail
def isB:List UInt8->List ByteArray->Nat->Option Nat
 | _,[],_=>none
 | l,y::r,i=>if l=y.data.toList then some i else isB l r (i+1)
def aeY:Eng.Obj:=fun args h=>match args with
 | [.ptr 0 0,.agg [.s (.int .i64 5),.s (.int .i64 0),.s (.str x)]]=>opt (pC N0 h) fun s=>.ite none (Dly.pB (YA s))
  (match isB x.data.toList acS 0 with
  | some j=>.ite none s.qu.isSome (.ret (Eng.iv (abk j),aK NA { dfC s with qu:=some (s.qu.getD 0) })) (.ret (Eng.iv (abk j),aK NA { dfC s with qu:=none }))
  | none=>.fail) .fail
 | _=>.fail
theorem Dk {x y:ByteArray} (e:x.data.toList=y.data.toList):x=y:=by
 obtain ⟨⟨a⟩⟩:=x;obtain ⟨⟨b⟩⟩:=y;have e:a=b:=e;rw [e]
theorem Nq {x:ByteArray}:∀ {l:List ByteArray} {i j:Nat},isB x.data.toList l i=some j->i<=j/\l[j - i]?=some x
 | [],i,j,h=>by cases h
 | y::r,i,j,h=>by
  unfold isB at h;split at h
  ·rename_i e;obtain rfl:=AI h;obtain rfl:=Dk e;exact ⟨ajc _,by simp⟩
  ·obtain ⟨h1,h2⟩:=Nq h;refine ⟨by omega,?_⟩;obtain ⟨d,rfl⟩:∃ d,j=i+1+d:=⟨j - (i+1),by omega⟩
   rw [show i+1+d - (i+1)=d by omega] at h2;rw [show i+1+d - i=d+1 by omega,List.getElem?_cons_succ];exact h2
theorem VX {x:ByteArray} {j:Nat} (h:acS[j]?=some x) (s:aq):(oR x s).eval=some (Eng.iv (abk j),aK N0 (dfC s)):=by
 have hj:j<6:=by
  obtain ⟨h1,_⟩:=List.getElem?_eq_some_iff.1 h;exact h1
 match j,hj,h with
 | 0,_,h=>obtain rfl:=AI h;exact aeZ s
 | 1,_,h=>obtain rfl:=AI h;exact afY s
 | 2,_,h=>obtain rfl:=AI h;exact afS s
 | 3,_,h=>obtain rfl:=AI h;exact adW s
 | 4,_,h=>obtain rfl:=AI h;exact afw s
 | 5,_,h=>obtain rfl:=AI h;exact adk s
theorem zw {x:ByteArray} {s:aq} (h:s.c=Conf.aiB):(afD [.ptr 0 0,.agg [Eng.iv 5,Eng.iv 0,.s (.str x)]] (aK N0 s)).eval=(oR x s).eval:=by
 unfold oR;rw [Nc h,T.aim]
theorem TQ:aj Tryz.prog 8 ac1:=Dh.aip fun args h r hv=>by
 unfold ac1 at hv;split at hv
 ·rename_i x;obtain ⟨s,hd,hv1⟩:=ab hv;clear hv;have:=cE hd;subst this;obtain ⟨hc,hv2⟩:=ao hv1;clear hv1;obtain ⟨k,hk⟩:=Dly.eI hc;split at hv2
  ·rename_i e;obtain rfl:=Dk e;have key:r=(Eng.iv 0,bO 16 (aK T5 (snD (gS s)))):=by
    cases hq:(snD (gS s)).qu.isSome with
    | true =>
     rw [hq,quS hq] at hv2;exact (AI hv2).symm
    | false =>
     rw [hq,quN hq] at hv2;exact (AI hv2).symm
   rw [key];exact (zw hk.g.c).trans (Cp hk).1
  ·cases hv2
 ·cases hv
theorem Qh:aj Tryz.prog 8 aeY:=Dh.ren fun args h v' h'' hv=>by
 unfold aeY at hv;split at hv
 ·rename_i x;obtain ⟨s,hd,hv1⟩:=ab hv;clear hv;have:=cE hd;subst this;obtain ⟨hc,hv2⟩:=ao hv1;clear hv1;obtain ⟨k,hk⟩:=Dly.eI hc;split at hv2
  ·rename_i j e;obtain ⟨_,hx⟩:=Nq e;have hx:acS[j]?=some x:=hx;have key:v'=Eng.iv (abk j)/\h''=aK NA (dfC s):=by
    cases hq:s.qu.isSome with
    | true =>
     have e:({ dfC s with qu:=some (s.qu.getD 0) }:aq)=dfC s:=quS (a:=dfC s) hq;rw [hq,e] at hv2;have:=AI hv2;exact ⟨(congrArg Prod.fst this).symm,(congrArg Prod.snd this).symm⟩
    | false =>
     have e:({ dfC s with qu:=none }:aq)=dfC s:=quN (a:=dfC s) hq;rw [hq,e] at hv2;have:=AI hv2;exact ⟨(congrArg Prod.fst this).symm,(congrArg Prod.snd this).symm⟩
   obtain ⟨rfl,rfl⟩:=key;exact ⟨_,_,sgN N0,(zw hk.g.c).trans (VX hx s),XX _ _ _,rfl,sV ahW (List.Perm.refl _) (agW _)⟩
  ·cases hv2
 ·cases hv
theorem aj.or {P:Program} {f:Nat} {a b c:Eng.Obj} (ha:aj P f a) (hb:aj P f b) (hc:∀ args h r,(c args h).eval=some r->(a args h).eval=some r\/(b args h).eval=some r):aj P f c :=
 ⟨ha.body,fun args hp v h' ν w hG hF h1 h2 h3 hv h4=>(hc args hp _ hv).elim (fun e=>ha.calls args hp v h' ν w hG hF h1 h2 h3 e h4) fun e=>hb.calls args hp v h' ν w hG hF h1 h2 h3 e h4⟩
def doS:Eng.Obj:=fun args h=>match args with
 | [.ptr 0 0,.agg [.s (.int .i64 k),.s (.int .i64 n),.s (.str x)]]=>if x.data.toList=K8.data.toList then ac1 args h else aeY args h
 | _=>.fail
theorem Zv:aj Tryz.prog 8 doS:=aj.or TQ Qh fun args h r hv=>by
 unfold doS at hv;split at hv
 ·split at hv
  ·exact Or.inl hv
  ·exact Or.inr hv
 ·cases hv
def doB:Eng.Obj:=fun args h=>match args with
 | [.ptr 0 0,.agg [.s (.int .i64 k),.s (.int .i64 n),.s (.str x)]]=>.ite none (decide (k=5)) (doS args h) (doA args h)
 | _=>.fail
theorem ZP:aj Tryz.prog 8 doB:=aj.or Zv YC fun args h r hv=>by
 unfold doB at hv;split at hv
 ·rename_i k n x;by_cases hk:k=5
  ·rw [sh hk] at hv;exact Or.inl hv
  ·rw [BY hk] at hv;exact Or.inr hv
 ·cases hv
def NR:Cfg:=⟨Tryz.prog,lookG [],[],0⟩
theorem aeU:NR.Ok:=Cfg.ok trivial trivial
def Ks:Eng.Spec:=aE NR aa 7
theorem IG:ah Tryz.prog 7 Ks:=af aeU mixed Tryz.func7 (by kernel_rfl) (by kernel_rfl)
def evE (k n:Int) (x:ByteArray):V:=.agg [.s (.int .i64 k),.s (.int .i64 n),.s (.str x)]
def nkQ (k:Int):Int:=Int.tmod (IntKind.wrap .u64 k) 16
def nmQ (n m:Int):Int:=IntKind.wrap .i64 (Int.tmod (IntKind.wrap .u64 n) m)
def n1Q (n m:Int):Int:=IntKind.wrap .i64 (1+nmQ n m)
def noT:ByteArray:=⟨#[]⟩
def LD:List ByteArray:=[⟨#[109,97,120,58,32,53]⟩,⟨#[109,105,110,58,32,49]⟩,⟨#[108,105,109,105,116,58,32,50]⟩,⟨#[113,117,101,117,101,58,32,51]⟩,⟨#[98,117,114,115,116,58,32,45,49]⟩,⟨#[98,117,114,115,116,58,32,48]⟩,⟨#[100,101,108,97,121,58,32,50,48]⟩,⟨#[115,116,97,98,108,101,58,32,49,50,10,112,97,110,105,99,58,32,51]⟩,⟨#[115,117,98,115,101,116,58,32,50]⟩,⟨#[103,114,97,105,110,58,32,50]⟩,⟨#[116,105,109,101,111,117,116,58,32,52]⟩,⟨#[120]⟩]
def ad3 (n:Int):ByteArray:=LD.getD (Int.tmod (IntKind.wrap .u64 n) 12).toNat noT
def nearE (k n:Int) (x:ByteArray) (i:Int):Int × Int × ByteArray :=
 if Int.tmod i 11=10 then (k,n,x) else if nkQ k<4 then (1,n1Q n 6,noT) else if nkQ k<8 then (2,n1Q n 9,noT) else if nkQ k<12 then (3,nmQ n 12,noT) else if nkQ k=12 then (4,nmQ n 4,noT) else if nkQ k=13 then (6,n1Q n 5,noT) else if nkQ k=14 then (1,n1Q n 80,noT) else (5,0,ad3 n)
def evO (e:Int × Int × ByteArray):V:=evE e.1 e.2.1 e.2.2
abbrev nrT (k n:Int) (x:ByteArray) (i:Int):T V:=T.anon (Ks [evE k n x,Eng.iv i])
theorem nr_a (k n:Int) (x:ByteArray) (i:Int):T.path [false,true] (nrT k n x i)=some ([((11:Int)==0,false),(Int.tmod i 11==10,true)],evO (k,n,x)):=by kernel_rfl
def nrH (k i:Int):List (Bool × Bool):=[((11:Int)==0,false),(Int.tmod i 11==10,false),((16:Int)==0,false)]
theorem nr_b (k n:Int) (x:ByteArray) (i:Int):T.path [false,false,false,true,false] (nrT k n x i)=some (nrH k i++[(decide (nkQ k<4),true),((6:Int)==0,false)],evO (1,n1Q n 6,noT)):=by kernel_rfl
theorem nr_c (k n:Int) (x:ByteArray) (i:Int):T.path [false,false,false,false,true,false] (nrT k n x i)=some (nrH k i++[(decide (nkQ k<4),false),(decide (nkQ k<8),true),((9:Int)==0,false)],evO (2,n1Q n 9,noT)):=by kernel_rfl
theorem nr_d (k n:Int) (x:ByteArray) (i:Int):T.path [false,false,false,false,false,true,false] (nrT k n x i)=some (nrH k i++[(decide (nkQ k<4),false),(decide (nkQ k<8),false),(decide (nkQ k<12),true),((12:Int)==0,false)],evO (3,nmQ n 12,noT)):=by kernel_rfl
def nrG (k i:Int):List (Bool × Bool):=nrH k i++[(decide (nkQ k<4),false),(decide (nkQ k<8),false),(decide (nkQ k<12),false)]
theorem nr_e (k n:Int) (x:ByteArray) (i:Int):T.path [false,false,false,false,false,false,true,false] (nrT k n x i)=some (nrG k i++[(nkQ k==12,true),((4:Int)==0,false)],evO (4,nmQ n 4,noT)):=by kernel_rfl
theorem nr_f (k n:Int) (x:ByteArray) (i:Int):T.path [false,false,false,false,false,false,false,true,false] (nrT k n x i)=some (nrG k i++[(nkQ k==12,false),(nkQ k==13,true),((5:Int)==0,false)],evO (6,n1Q n 5,noT)):=by kernel_rfl
theorem nr_g (k n:Int) (x:ByteArray) (i:Int):T.path [false,false,false,false,false,false,false,false,true,false] (nrT k n x i)=some (nrG k i++[(nkQ k==12,false),(nkQ k==13,false),(nkQ k==14,true),((80:Int)==0,false)],evO (1,n1Q n 80,noT)):=by kernel_rfl
def abc (X:Int):Nat->Nat->List (Bool × Bool)
 | i,0=>[(decide (X=(i:Int)),true)]
 | i,j+1=>(decide (X=(i:Int)),false)::abc X (i+1) j
theorem tw {X:Int}:∀ {i j:Nat},X=((i+j:Nat):Int)->cu (abc X i j)
 | i,0,h=>⟨sh h,trivial⟩
 | i,j+1,h=>⟨BY (by omega),tw (by omega)⟩
theorem nr_h (k n:Int) (x:ByteArray) (i:Int):((List.range 12).map fun j=>T.path (List.replicate 10 false++List.replicate j false++[true]) (nrT k n x i))=(List.range 12).map fun j=>some (nrG k i++((nkQ k==12,false)::(nkQ k==13,false)::(nkQ k==14,false)::((12:Int)==0,false)::abc (Int.tmod (IntKind.wrap .u64 n) 12) 0 j),evO (5,0,LD.getD j noT)):=by kernel_rfl
def O1:Eng.Spec
 | [.agg [.s (.int .i64 k),.s (.int .i64 n),.s (.str x)],.s (.int .i64 i)]=>.ret (evO (nearE k n x i))
 | _=>.fail
theorem Al {α:Type} {f g:Nat->α} {n:Nat} (h:(List.range n).map f=(List.range n).map g) (i:Nat) (hi:i<n):f i=g i:=by
 have:=congrArg (fun l=>l[i]?) h;simpa [hi] using this
theorem Js (k n:Int) (x:ByteArray) (i:Int):(Ks [evE k n x,Eng.iv i]).eval=some (evO (nearE k n x i)):=by
 rw [<- T.aim (t:=Ks _)];unfold nearE;by_cases h0:Int.tmod i 11=10
 ·rw [if_pos h0];exact T.aik (nr_a k n x i) ⟨rfl,by simpa using h0,trivial⟩
 have b0:(Int.tmod i 11==10)=false:=by simpa using h0
 have hH:cu (nrH k i):=⟨rfl,b0,rfl,trivial⟩
 rw [if_neg h0];by_cases h1:nkQ k<4
 ·rw [if_pos h1];exact T.aik (nr_b k n x i) (au hH ⟨sh h1,rfl,trivial⟩)
 rw [if_neg h1];by_cases h2:nkQ k<8
 ·rw [if_pos h2];exact T.aik (nr_c k n x i) (au hH ⟨BY h1,sh h2,rfl,trivial⟩)
 rw [if_neg h2];by_cases h3:nkQ k<12
 ·rw [if_pos h3];exact T.aik (nr_d k n x i) (au hH ⟨BY h1,BY h2,sh h3,rfl,trivial⟩)
 rw [if_neg h3];have hG:cu (nrG k i):=au hH ⟨BY h1,BY h2,BY h3,trivial⟩;by_cases h4:nkQ k=12
 ·rw [if_pos h4];exact T.aik (nr_e k n x i) (au hG ⟨by simpa using h4,rfl,trivial⟩)
 rw [if_neg h4];have b4:(nkQ k==12)=false:=by simpa using h4
 by_cases h5:nkQ k=13
 ·rw [if_pos h5];exact T.aik (nr_f k n x i) (au hG ⟨b4,by simpa using h5,rfl,trivial⟩)
 rw [if_neg h5];have b5:(nkQ k==13)=false:=by simpa using h5
 by_cases h6:nkQ k=14
 ·rw [if_pos h6];exact T.aik (nr_g k n x i) (au hG ⟨b4,b5,by simpa using h6,rfl,trivial⟩)
 rw [if_neg h6];have b6:(nkQ k==14)=false:=by simpa using h6
 have hX:0<=IntKind.wrap .u64 n:=by show 0<=n % 18446744073709551616;exact Int.emod_nonneg _ (by decide)
 have hm:Int.tmod (IntKind.wrap .u64 n) 12=IntKind.wrap .u64 n % 12:=Int.tmod_eq_emod_of_nonneg hX;have m0:=Int.emod_nonneg (IntKind.wrap .u64 n) (show (12:Int)≠0 by decide);have m1:=Int.emod_lt_of_pos (IntKind.wrap .u64 n) (show (0:Int)<12 by decide);have hj:(Int.tmod (IntKind.wrap .u64 n) 12).toNat<12:=by omega
 have way:=Al (nr_h k n x i) _ hj;exact T.aik way (au hG ⟨b4,b5,b6,rfl,tw (by omega)⟩)
theorem HO:ah Tryz.prog 7 O1:=IG.air fun args v hfl h=>by
 clear hfl;unfold O1 at h;split at h
 ·rename_i k n x i;obtain rfl:=AI h;exact ⟨_,Js k n x i,⟨rfl,rfl⟩,rfl⟩
 ·cases h
theorem no_txt:(Txt.aei [Conf.eM Conf.aiB,.s (.str ⟨⟨[]⟩⟩)]).eval=some (.tup [Conf.eM Conf.aiB,Eng.iv 0,Eng.iv 0]):=by kernel_rfl
theorem XO:ah Tryz.prog 12 (Txt.ab4 [([],Conf.aiB)]):=Txt.TS fun p hp=>by
 rw [ajk.1 hp];exact no_txt
def LZ:Cfg:=⟨Tryz.prog,lookG [(13,.val Conf.Il),(12,.val (Txt.ab4 [([],Conf.aiB)])),(14,.obj neS)],[uc],0⟩
theorem aeu:LZ.Ok:=Cfg.ok ⟨Conf.qz,XO,Me,trivial⟩ ZY
def ag6:Eng.Obj:=aA LZ aa 4
theorem RT:aj Tryz.prog 4 ag6:=ae aeu mixed Tryz.func4 (by kernel_rfl) (by kernel_rfl)
def SV:Cfg:=⟨Tryz.prog,lookG [],[32,47],0⟩
theorem VP:SV.Ok:=Cfg.ok trivial ⟨⟨by kernel_rfl,by kernel_rfl⟩,⟨by kernel_rfl,by kernel_rfl⟩,trivial⟩
structure V7 where
 t:Int
 want:Int
 pa:Bool
 pr:Bool
 wa:Int
 bu:Int
 e0:Int
 e1:Int
 e2:Int
 e3:Int
 e4:Int
 e5:Int
 e6:Int
 ov:Bool
def v7V (i:Nat) (n:Nat) (x:V7):V:=.agg [.s (.int .i64 x.t),.s (.int .i64 x.want),.s (.bool x.pa),.s (.bool x.pr),.sub i 4 0 n,.s (.int .i64 x.wa),.s (.int .i64 x.bu),.s (.int .i64 x.e0),.s (.int .i64 x.e1),.s (.int .i64 x.e2),.s (.int .i64 x.e3),.s (.int .i64 x.e4),.s (.int .i64 x.e5),.s (.int .i64 x.e6),.s (.bool x.ov)]
def W7:Code:=bV Tryz.prog 11 0
structure PSv where (t:Int) (want:Int) (pa:Bool) (pr:Bool) (wa:Int) (bu:Int) (e0:Int) (e1:Int) (e2:Int) (e3:Int) (e4:Int) (e5:Int) (e6:Int) (ov:Bool) (n:Nat) (t2:Int) (want2:Int) (pa2:Bool) (pr2:Bool) (wa2:Int) (bu2:Int) (e02:Int) (e12:Int) (e22:Int) (e32:Int) (e42:Int) (e52:Int) (e62:Int) (ov2:Bool) (n2:Nat) (l:List R4) (m:List R4)
structure ASv where (i:Int)
abbrev SSv:List (Nat × Src):=[(0,.same),(1,.same),(2,.same),(10,.same)]
def abu (p:PSv) (a:ASv):List V:=[.ptr 2 0,.ptr 10 0,iv a.i]
def ab5 (p:PSv) (a:ASv):List Blk:=[.lst true 47 [.int .i64,.int .i64,.int .i64,.int .i64] p.l,.lst true 47 [.int .i64,.int .i64,.int .i64,.int .i64] p.m,.cells 34 [iv p.t,iv p.want,.s (.bool p.pa),.s (.bool p.pr),.sub 0 4 0 p.n,iv p.wa,iv p.bu,iv p.e0,iv p.e1,iv p.e2,iv p.e3,iv p.e4,iv p.e5,iv p.e6,.s (.bool p.ov)],.cells 34 [iv p.t2,iv p.want2,.s (.bool p.pa2),.s (.bool p.pr2),.sub 1 4 0 p.n2,iv p.wa2,iv p.bu2,iv p.e02,iv p.e12,iv p.e22,iv p.e32,iv p.e42,iv p.e52,iv p.e62,.s (.bool p.ov2)]]
def FSv (p:PSv) (a:ASv):St:=bP [2,3,5] (aI SSv) 1002 87 (abu p a) (ab5 p a)
def UA (p:PSv) (a:ASv):T (Ex × St):=T.anon (bB SV aa W7 [2,3,5] SSv 1000 1002 (bP [2,3,5] (aI SSv) 1002 87 (abu p a) (ab5 p a)))
def s8:V->Option (Unit)
 | .ptr 2 0=>some ()
 | _=>none
theorem wT (b:V) (x0:Unit) (h:s8 b=some x0):b=.ptr 2 0:=by
 unfold s8 at h;split at h
 ·cases h;rfl
 ·cases h
def rZ:V->Option (Unit)
 | .ptr 10 0=>some ()
 | _=>none
theorem xd (b:V) (x1:Unit) (h:rZ b=some x1):b=.ptr 10 0:=by
 unfold rZ at h;split at h
 ·cases h;rfl
 ·cases h
def qS:V->Option ((Int))
 | .s (.int .i64 i)=>some (i)
 | _=>none
theorem wU (b:V) (x2:(Int)) (h:qS b=some x2):b=iv (x2):=by
 unfold qS at h;split at h
 ·cases h;rfl
 ·cases h
def sF:Blk->Option ((List R4))
 | .lst true tt0 [.int .i64,.int .i64,.int .i64,.int .i64] l=>if tt0=47 then some (l) else none
 | _=>none
theorem yc (b:Blk) (y0:(List R4)) (h:sF b=some y0):b=.lst true 47 [.int .i64,.int .i64,.int .i64,.int .i64] (y0):=by
 unfold sF at h;split at h
 ·obtain ⟨e0,h⟩:=ag h;subst e0;cases h;rfl
 ·cases h
def tF:Blk->Option ((List R4))
 | .lst true tt0 [.int .i64,.int .i64,.int .i64,.int .i64] m=>if tt0=47 then some (m) else none
 | _=>none
theorem yo (b:Blk) (y1:(List R4)) (h:tF b=some y1):b=.lst true 47 [.int .i64,.int .i64,.int .i64,.int .i64] (y1):=by
 unfold tF at h;split at h
 ·obtain ⟨e0,h⟩:=ag h;subst e0;cases h;rfl
 ·cases h
def tK:Blk->Option ((Int) × (Int) × (Bool) × (Bool) × (Nat) × (Int) × (Int) × (Int) × (Int) × (Int) × (Int) × (Int) × (Int) × (Int) × (Bool))
 | .cells tt0 [.s (.int .i64 t),.s (.int .i64 want),.s (.bool pa),.s (.bool pr),.sub 0 4 0 n,.s (.int .i64 wa),.s (.int .i64 bu),.s (.int .i64 e0),.s (.int .i64 e1),.s (.int .i64 e2),.s (.int .i64 e3),.s (.int .i64 e4),.s (.int .i64 e5),.s (.int .i64 e6),.s (.bool ov)]=>if tt0=34 then some (t,want,pa,pr,n,wa,bu,e0,e1,e2,e3,e4,e5,e6,ov) else none
 | _=>none
theorem wA (b:Blk) (y2:(Int) × (Int) × (Bool) × (Bool) × (Nat) × (Int) × (Int) × (Int) × (Int) × (Int) × (Int) × (Int) × (Int) × (Int) × (Bool)) (h:tK b=some y2):b=.cells 34 [iv (y2.1),iv (y2.2.1),.s (.bool (y2.2.2.1)),.s (.bool (y2.2.2.2.1)),.sub 0 4 0 (y2.2.2.2.2.1),iv (y2.2.2.2.2.2.1),iv (y2.2.2.2.2.2.2.1),iv (y2.2.2.2.2.2.2.2.1),iv (y2.2.2.2.2.2.2.2.2.1),iv (y2.2.2.2.2.2.2.2.2.2.1),iv (y2.2.2.2.2.2.2.2.2.2.2.1),iv (y2.2.2.2.2.2.2.2.2.2.2.2.1),iv (y2.2.2.2.2.2.2.2.2.2.2.2.2.1),iv (y2.2.2.2.2.2.2.2.2.2.2.2.2.2.1),.s (.bool (y2.2.2.2.2.2.2.2.2.2.2.2.2.2.2))]:=by
 unfold tK at h;split at h
 ·obtain ⟨e0,h⟩:=ag h;subst e0;cases h;rfl
 ·cases h
def rV:Blk->Option ((Int) × (Int) × (Bool) × (Bool) × (Nat) × (Int) × (Int) × (Int) × (Int) × (Int) × (Int) × (Int) × (Int) × (Int) × (Bool))
 | .cells tt0 [.s (.int .i64 t2),.s (.int .i64 want2),.s (.bool pa2),.s (.bool pr2),.sub 1 4 0 n2,.s (.int .i64 wa2),.s (.int .i64 bu2),.s (.int .i64 e02),.s (.int .i64 e12),.s (.int .i64 e22),.s (.int .i64 e32),.s (.int .i64 e42),.s (.int .i64 e52),.s (.int .i64 e62),.s (.bool ov2)]=>if tt0=34 then some (t2,want2,pa2,pr2,n2,wa2,bu2,e02,e12,e22,e32,e42,e52,e62,ov2) else none
 | _=>none
theorem yv (b:Blk) (y3:(Int) × (Int) × (Bool) × (Bool) × (Nat) × (Int) × (Int) × (Int) × (Int) × (Int) × (Int) × (Int) × (Int) × (Int) × (Bool)) (h:rV b=some y3):b=.cells 34 [iv (y3.1),iv (y3.2.1),.s (.bool (y3.2.2.1)),.s (.bool (y3.2.2.2.1)),.sub 1 4 0 (y3.2.2.2.2.1),iv (y3.2.2.2.2.2.1),iv (y3.2.2.2.2.2.2.1),iv (y3.2.2.2.2.2.2.2.1),iv (y3.2.2.2.2.2.2.2.2.1),iv (y3.2.2.2.2.2.2.2.2.2.1),iv (y3.2.2.2.2.2.2.2.2.2.2.1),iv (y3.2.2.2.2.2.2.2.2.2.2.2.1),iv (y3.2.2.2.2.2.2.2.2.2.2.2.2.1),iv (y3.2.2.2.2.2.2.2.2.2.2.2.2.2.1),.s (.bool (y3.2.2.2.2.2.2.2.2.2.2.2.2.2.2))]:=by
 unfold rV at h;split at h
 ·obtain ⟨e0,h⟩:=ag h;subst e0;cases h;rfl
 ·cases h
def Q5:List V->List Blk->Option (PSv × ASv)
 | [v0,v1,v2],[b0,b1,b2,b3]=>(s8 v0).bind fun x0=>(rZ v1).bind fun x1=>(qS v2).bind fun x2=>(sF b0).bind fun y0=>(tF b1).bind fun y1=>(tK b2).bind fun y2=>(rV b3).bind fun y3=>some (⟨(y2.1),(y2.2.1),(y2.2.2.1),(y2.2.2.2.1),(y2.2.2.2.2.2.1),(y2.2.2.2.2.2.2.1),(y2.2.2.2.2.2.2.2.1),(y2.2.2.2.2.2.2.2.2.1),(y2.2.2.2.2.2.2.2.2.2.1),(y2.2.2.2.2.2.2.2.2.2.2.1),(y2.2.2.2.2.2.2.2.2.2.2.2.1),(y2.2.2.2.2.2.2.2.2.2.2.2.2.1),(y2.2.2.2.2.2.2.2.2.2.2.2.2.2.1),(y2.2.2.2.2.2.2.2.2.2.2.2.2.2.2),(y2.2.2.2.2.1),(y3.1),(y3.2.1),(y3.2.2.1),(y3.2.2.2.1),(y3.2.2.2.2.2.1),(y3.2.2.2.2.2.2.1),(y3.2.2.2.2.2.2.2.1),(y3.2.2.2.2.2.2.2.2.1),(y3.2.2.2.2.2.2.2.2.2.1),(y3.2.2.2.2.2.2.2.2.2.2.1),(y3.2.2.2.2.2.2.2.2.2.2.2.1),(y3.2.2.2.2.2.2.2.2.2.2.2.2.1),(y3.2.2.2.2.2.2.2.2.2.2.2.2.2.1),(y3.2.2.2.2.2.2.2.2.2.2.2.2.2.2),(y3.2.2.2.2.1),(y0),(y1)⟩,⟨(x2)⟩)
 | _,_=>none
theorem Ih (l:List V) (b:List Blk) (d:PSv × ASv) (h:Q5 l b=some d):l=abu d.1 d.2/\b=ab5 d.1 d.2:=by
 unfold Q5 at h;split at h
 ·obtain ⟨x0,hx0,h⟩:=By.1 h;obtain ⟨x1,hx1,h⟩:=By.1 h;obtain ⟨x2,hx2,h⟩:=By.1 h;obtain ⟨y0,hy0,h⟩:=By.1 h;obtain ⟨y1,hy1,h⟩:=By.1 h;obtain ⟨y2,hy2,h⟩:=By.1 h;obtain ⟨y3,hy3,h⟩:=By.1 h;have ex0:=wT _ _ hx0;have ex1:=xd _ _ hx1;have ex2:=wU _ _ hx2;have ey0:=yc _ _ hy0;have ey1:=yo _ _ hy1;have ey2:=wA _ _ hy2;have ey3:=yv _ _ hy3;cases h;subst ex0 ex1 ex2 ey0 ey1 ey2 ey3;exact ⟨rfl,rfl⟩
 ·cases h
def ahn:Nat:=(av W7).getD 0
theorem SM:av W7=some ahn:=by kernel_rfl
def pdA (l:List R4) (i:Int):R4:=List.getD (α:=R4) l (0+i.toNat) (Row.aiB [.int .i64,.int .i64,.int .i64,.int .i64])
def neP (a b:R4):Bool := !(a.1==b.1&&(a.2.1==b.2.1&&(a.2.2.1==b.2.2.1&&(a.2.2.2==b.2.2.2&&true))))
def inP (i:Int) (n:Nat) (l:List R4):Bool:=decide (0<=i)&&(decide (i<(n:Int))&&decide (0+i.toNat<l.length))
theorem sv_n (p:PSv) (a:ASv):T.path [true,true,true,true,true,false] (UA p a)=some ([(decide (a.i<(p.n:Int)),true),(inP a.i p.n p.l,true),(decide (0+a.i.toNat<p.l.length),true),(inP a.i p.n2 p.m,true),(decide (0+a.i.toNat<p.m.length),true),(neP (pdA p.l a.i) (pdA p.m a.i),false)],(.normal,FSv p ⟨IntKind.wrap .i64 (a.i+1)⟩)):=by kernel_rfl
theorem sv_x (p:PSv) (a:ASv):T.path [false] (UA p a)=some ([(decide (a.i<(p.n:Int)),false)],(.exit 0,FSv p a)):=by kernel_rfl
structure Ms (p:PSv) (a:ASv):Prop where
 n:p.n=p.l.length
 n2:p.n2=p.n
 m:p.m=p.l
 b:p.l.length<=1000000
 i0:0<=a.i
 i1:a.i<=(p.n:Int)
def aa2 (p:PSv) (a:ASv):Bool:=decide (a.i<(p.n:Int))
def ahr (p:PSv) (a:ASv):Nat:=((p.n:Int) - a.i).toNat
theorem JY (a:R4):neP a a=false:=by unfold neP;simp
theorem acw {p:PSv} {a:ASv} (h:Ms p a) (hg:aa2 p a=true):(UA p a).eval=some (.normal,FSv p ⟨a.i+1⟩)/\Ms p ⟨a.i+1⟩:=by
 have hi:a.i<(p.n:Int):=IN hg;obtain ⟨h1,h2,h3,h4,h5,h6⟩:=h;have way:=sv_n p a;rw [wrap64_in (n:=a.i+1) (by omega) (by omega),h2,h3] at way;have c1:decide (0+a.i.toNat<p.l.length)=true:=sh (by omega);have c2:inP a.i p.n p.l=true:=by unfold inP;rw [c1,sh h5,sh hi];rfl
 exact ⟨T.aik way ⟨hg,c2,c1,c2,c1,JY _,trivial⟩,h1,h2,h3,h4,by show 0<=a.i+1;omega,by show a.i+1<=(p.n:Int);omega⟩
theorem Zs (p:PSv) (a:ASv) (h:Ms p a) (hg:aa2 p a=true):∃ b,dz Ms UA FSv ahr p a b:=by
 obtain ⟨r1,r2⟩:=acw h hg;have hi:a.i<(p.n:Int):=IN hg;exact ⟨_,r1,r2,by show ((p.n:Int) - (a.i+1)).toNat<((p.n:Int) - a.i).toNat;omega⟩
theorem exSv (p:PSv) (a:ASv) (h:Ms p a) (hg:aa2 p a=false):(UA p a).eval=some (.exit 0,FSv p a):=T.aik (sv_x p a) ⟨hg,trivial⟩
def U3:bK:=vQ [2,3,5] SSv 1000 1002 87 Q5 Ms aa2 UA FSv ahr (.exit 0)
theorem Pu:aL SV W7 U3:=dn (vs:=abu) (bs:=ab5) VP mixed (az _) Ih (by simp) (fun _ _=>rfl) (fun _ _=>rfl) Zs exSv
def svO:Eng.Obj:=aA SV (cH [(ahn,U3)]) 11
theorem ZE:aj Tryz.prog 11 svO:=aG VP mixed Tryz.func11 (by kernel_rfl) (by kernel_rfl) (cy (c:=W7) (by kernel_rfl) SM Pu)
def pSv (x:V7) (n:Nat) (l:List R4):PSv:=⟨x.t,x.want,x.pa,x.pr,x.wa,x.bu,x.e0,x.e1,x.e2,x.e3,x.e4,x.e5,x.e6,x.ov,n,x.t,x.want,x.pa,x.pr,x.wa,x.bu,x.e0,x.e1,x.e2,x.e3,x.e4,x.e5,x.e6,x.ov,n,l,l⟩
def svB (x:V7) (n:Nat):Bool:=bif bif bif bif bif bif bif bif x.t != x.t then true else x.want != x.want then true else !x.pa==x.pa then true else !x.pr==x.pr then true else x.wa != x.wa then true else x.bu != x.bu then true else
 !(x.e0==x.e0&&(x.e1==x.e1&&(x.e2==x.e2&&(x.e3==x.e3&&(x.e4==x.e4&&(x.e5==x.e5&&(x.e6==x.e6&&true))))))) then true else !x.ov==x.ov then true else (n:Int) != (n:Int)
theorem Zw (x:V7) (n:Nat):svB x n=false:=by unfold svB;simp
theorem sv_w (x:V7) (n:Nat) (l:List R4):T.path [false,true] (T.anon (svO [v7V 0 n x,v7V 1 n x] [(0,mM l),(1,mM l)]))=some ([(svB x n,false),(cK Ms (pSv x n l) ⟨0⟩,true)],(.tt,[(0,mM l),(1,mM l)])):=by kernel_rfl
def acn:List V->Option (V7 × Nat × Nat)
 | [.s (.int .i64 t),.s (.int .i64 want),.s (.bool pa),.s (.bool pr),.sub i 4 0 n,.s (.int .i64 wa),.s (.int .i64 bu),.s (.int .i64 e0),.s (.int .i64 e1),.s (.int .i64 e2),.s (.int .i64 e3),.s (.int .i64 e4),.s (.int .i64 e5),.s (.int .i64 e6),.s (.bool ov)]=>some (⟨t,want,pa,pr,wa,bu,e0,e1,e2,e3,e4,e5,e6,ov⟩,i,n)
 | _=>none
theorem EG {a:List V} {x:V7} {i n:Nat} (h:acn a=some (x,i,n)):.agg a=v7V i n x:=by
 unfold acn at h;split at h
 ·cases h;rfl
 ·cases h
def ad7 (x y:V7) (n m:Nat) (l k:List R4):Prop:=y=x/\m=n/\k=l/\n=l.length/\l.length<=1000000
def svS:Eng.Obj:=fun args h=>match args,h with
 | [.agg a,.agg b],[(0,.lst true t [.int .i64,.int .i64,.int .i64,.int .i64] l),(1,.lst true t' [.int .i64,.int .i64,.int .i64,.int .i64] k)]=>opt (acn a) fun x=>opt (acn b) fun y =>
  if t=47/\t'=47/\x.2.1=0/\y.2.1=1 then .ite none (Dly.pB (ad7 x.1 y.1 x.2.2 y.2.2 l k)) (.ret (.tt,h)) .fail else .fail
 | _,_=>.fail
theorem X5:aj Tryz.prog 11 svS:=ZE.aip fun args h r hv=>by
 unfold svS at hv;split at hv
 ·rename_i a b t l t' k;obtain ⟨⟨x,i,n⟩,hx,hv⟩:=ab hv;obtain ⟨⟨y,j,m⟩,hy,hv⟩:=ab hv;split at hv
  ·rename_i hc;obtain ⟨rfl,rfl,h1,h2⟩:=hc;dsimp only at h1 h2;subst h1;subst h2;obtain ⟨hb,hv3⟩:=ao hv;have hq:ad7 x y n m l k:=Dly.eI hb;obtain ⟨e1,e2,e3,e4,e5⟩:=hq;have hr:=AI hv3;rw [EG hx,EG hy,<- hr,<- T.aim (t:=svO _ _),e1,e2,e3];have ok:Ms (pSv x n l) ⟨0⟩:=⟨e4,rfl,rfl,e5,ai9 0,by show (0:Int)<=n;omega⟩
   exact T.aik (sv_w x n l) ⟨Zw x n,aJ ok,trivial⟩
  ·cases hv
 ·cases hv
def FS:Cfg:=⟨Tryz.prog,lookG [(6,.val af3),(4,.obj ag6),(5,.val Evt.aeQ),(7,.val O1),(8,.obj doB),(9,.obj seS),(10,.obj cnS),(11,.obj svS)],[uc,37],0⟩
theorem eFS:EOk Tryz.prog [uc,37]:=⟨⟨by kernel_rfl,by kernel_rfl⟩,⟨by kernel_rfl,by kernel_rfl⟩,trivial⟩
theorem WZ:FS.Ok:=Cfg.ok ⟨Cm,RT,Evt.VB,HO,ZP,MW,Y7,X5,trivial⟩ eFS
def Z6:Code:=bV Tryz.prog 3 0
abbrev Ev3:Type:=Int × Int × ByteArray
def NS:Nm:=⟨16,17,18,5019,5020,5021,5022,5023,24,25,26,27,5028,29,30⟩
structure PSe where (l:List Ev3) (n:Nat) (x:Int)
structure ASe where (s:aq) (i:Int)
abbrev SSe:List (Nat × Src):=[(0,.same),(15,.same),(16,.same),(17,.same),(18,.same),(5019,.cell 15 34),(5020,.cell 15 35),(5021,.cell 15 43),(5022,.cell 16 1),(5023,.cell 17 2),(24,.same),(25,.same),(26,.same),(27,.same),(5028,.cell 25 2),(29,.same),(30,.same)]
def ab1 (p:PSe) (a:ASe):List V:=[.sub 0 3 0 p.n,Eng.iv p.x,.ptr 15 0,Eng.iv a.i]
def YR (p:PSe) (a:ASe):List Blk:=.lst false 28 [.int .i64,.int .i64,.str] p.l::vP NS a.s
def FSe (p:PSe) (a:ASe):St:=bP [0,1,5,6] (aI SSe) 5080 95 (ab1 p a) (YR p a)
def Yq (p:PSe) (a:ASe):T (Ex × St):=T.anon (bB FS aa Z6 [0,1,5,6] SSe 5000 5080 (bP [0,1,5,6] (aI SSe) 5080 95 (ab1 p a) (YR p a)))
def OC:List V->List Blk->Option (PSe × ASe)
 | [.sub 0 3 0 n,.s (.int .i64 x),.ptr 15 0,.s (.int .i64 i)],.lst false t [.int .i64,.int .i64,.str] l::b=>if t=28 then (tX NS b).bind fun s=>some (⟨l,n,x⟩,⟨s,i⟩) else none
 | _,_=>none
theorem Kd (l:List V) (b:List Blk) (d:PSe × ASe) (h:OC l b=some d):l=ab1 d.1 d.2/\b=YR d.1 d.2:=by
 unfold OC at h;split at h
 ·obtain ⟨rfl,h⟩:=ag h;obtain ⟨s,hs,h⟩:=By.1 h;cases h;refine ⟨rfl,?_⟩;unfold YR;rw [jI hs]
 ·cases h
def ahj:Nat:=(av Z6).getD 0
theorem RP:av Z6=some ahj:=by kernel_rfl
def atE (l:List Ev3) (i:Int):Ev3:=nearE (List.getD (α:=Ev3) l (0+i.toNat) (Row.aiB [.int .i64,.int .i64,.str])).1 (List.getD (α:=Ev3) l (0+i.toNat) (Row.aiB [.int .i64,.int .i64,.str])).2.1 (List.getD (α:=Ev3) l (0+i.toNat) (Row.aiB [.int .i64,.int .i64,.str])).2.2 i
def evX (e:Ev3) (s:aq):aq:=evS e.1 e.2.1 e.2.2 s
def evQ (q:Bool) (e:Ev3) (s:aq):aq:={ evX e s with qu:=bif q then some ((evX e s).qu.getD 0) else none }
def agQ (l:List Ev3) (n:Nat) (i:Int) (c:Bool):List (Bool × Bool):=[(decide (i<(n:Int)),true),(decide (0<=i)&&(decide (i<(n:Int))&&decide (0+i.toNat<l.length)),true),(decide (0+i.toNat<l.length),true),((atE l i).1 != 5,c)]
theorem NM (q:Bool) (s:aq) (l:List Ev3) (n:Nat) (x i:Int):T.path [true,true,true,true,false,true,q] (Yq ⟨l,n,x⟩ ⟨s,i⟩)=some (agQ l n i true++[(decide ((atE l i).1=5),false),(Dly.pB (ah4 (atE l i).1 (atE l i).2.1 (atE l i).2.2 s),true),((evX (atE l i) s).qu.isSome,q)],(.normal,FSe ⟨l,n,x⟩ ⟨evQ q (atE l i) s,IntKind.wrap .i64 (i+1)⟩)):=by
 cases q
 all_goals ((obtain ⟨c,t,z,px,w,aT,aS,aQ,aW,aP,aX,lo,nr,nfl,e0,e1,e2,e3,e4,e5,e6,nt,lm,ln,qd,qu,qn,d,rq,fl,tl,tm,lp,ql⟩:=s;cases qu<;>kernel_rfl))
theorem adH (s:aq) (l:List Ev3) (n:Nat) (x i:Int):T.path [true,true,true,false] (Yq ⟨l,n,x⟩ ⟨s,i⟩)=some (agQ l n i false,(.normal,FSe ⟨l,n,x⟩ ⟨s,IntKind.wrap .i64 (i+1)⟩)):=by (obtain ⟨c,t,z,px,w,aT,aS,aQ,aW,aP,aX,lo,nr,nfl,e0,e1,e2,e3,e4,e5,e6,nt,lm,ln,qd,qu,qn,d,rq,fl,tl,tm,lp,ql⟩:=s;cases qu<;>kernel_rfl)
theorem aes (s:aq) (l:List Ev3) (n:Nat) (x i:Int):T.path [false] (Yq ⟨l,n,x⟩ ⟨s,i⟩)=some ([(decide (i<(n:Int)),false)],(.exit 0,FSe ⟨l,n,x⟩ ⟨s,i⟩)):=by (obtain ⟨c,t,z,px,w,aT,aS,aQ,aW,aP,aX,lo,nr,nfl,e0,e1,e2,e3,e4,e5,e6,nt,lm,ln,qd,qu,qn,d,rq,fl,tl,tm,lp,ql⟩:=s;cases qu<;>kernel_rfl)
structure KO (p:PSe) (a:ASe):Prop where
 n:p.n=p.l.length
 b:p.l.length<=30
 i0:0<=a.i
 i1:a.i<=(p.n:Int)
 j:JD a.i.toNat a.s
def evY (p:PSe) (a:ASe):aq:=if (atE p.l a.i).1=5 then a.s else evX (atE p.l a.i) a.s
def tz (p:PSe) (a:ASe):Option ASe:=if a.i<(p.n:Int) then some ⟨evY p a,a.i+1⟩ else none
def aaC (p:PSe) (a:ASe):Nat:=((p.n:Int) - a.i).toNat
def dfQ (q:Bool) (s:aq):aq:={ dfC s with qu:=bif q then some (s.qu.getD 0) else none }
def outSe (p:PSe) (a:ASe):T (Ex × St):=.ite none a.s.qu.isSome (.ret (.exit 0,FSe p ⟨dfQ true a.s,a.i⟩)) (.ret (.exit 0,FSe p ⟨dfQ false a.s,a.i⟩))
theorem Fg {p:PSe} {a:ASe} (h:KO p a) (hc:a.i<(p.n:Int)):KO p ⟨evY p a,a.i+1⟩:=by
 have i0:=h.i0;have n:=h.n;have b:=h.b;refine ⟨h.n,h.b,by show 0<=a.i+1;omega,by show a.i+1<=(p.n:Int);omega,?_⟩;show JD (a.i+1).toNat (evY p a);rw [show (a.i+1).toNat=a.i.toNat+1 by omega];unfold evY;split
 ·exact ⟨h.j.j.mono (Nat.le_succ _),h.j.g⟩
 ·rename_i h5;exact Pw h.j (by omega) h5
theorem ad9 (p:PSe) (a b:ASe) (h:cK KO p a=true) (e:tz p a=some b):cK KO p b=true/\aaC p b<aaC p a:=by
 have h0:=bN h;unfold tz at e;split at e
 ·rename_i hc;obtain rfl:=AI e;exact ⟨aJ (Fg h0 hc),by show ((p.n:Int) - (a.i+1)).toNat<((p.n:Int) - a.i).toNat;omega⟩
 ·cases e
theorem ED {s:aq} (h:s.c=Conf.aiB) {q:Bool} (hq:s.qu.isSome=q):dfQ q s=s:=by
 unfold dfQ;rw [Nc h];cases q
 ·exact quN hq
 ·exact quS hq
theorem YG {e:Ev3} {s:aq} {q:Bool} (hq:(evX e s).qu.isSome=q):evQ q e s=evX e s:=by
 unfold evQ;cases q
 ·exact quN hq
 ·exact quS hq
theorem hrSe (p:PSe) (a:ASe) (h:cK KO p a=true):(∀ b,tz p a=some b->(Yq p a).eval=some (.normal,FSe p b))/\(tz p a=none->∀ r,(outSe p a).eval=some r->r.1≠.normal/\(Yq p a).eval=some r):=by
 have h0:=bN h;obtain ⟨l,n,x⟩:=p;obtain ⟨s,i⟩:=a;obtain ⟨hn,hb,i0,i1,hj⟩:=h0;dsimp only at hn hb i0 i1 hj;refine ⟨fun b e => ?_,fun e r hr => ?_⟩
 ·unfold tz at e;split at e
  ·rename_i hc;obtain rfl:=AI e;have hc:i<(n:Int):=hc;have w1:IntKind.wrap .i64 (i+1)=i+1:=wrap64_in (by omega) (by omega);have c0:(decide (0<=i)&&(decide (i<(n:Int))&&decide (0+i.toNat<l.length)))=true:=by
    rw [sh i0,sh hc,sh (show 0+i.toNat<l.length by omega)];rfl
   have c1:decide (0+i.toNat<l.length)=true:=sh (by omega);by_cases h5:(atE l i).1=5
   ·have:=T.aik (adH s l n x i) ⟨sh hc,c0,c1,by rw [h5];rfl,trivial⟩;rw [this,w1];have ey:evY ⟨l,n,x⟩ ⟨s,i⟩=s:=if_pos h5;rw [ey]
   ·have c2:((atE l i).1 != 5)=true:=by simpa using h5
    have:=T.aik (NM _ s l n x i) (au ⟨sh hc,c0,c1,c2,trivial⟩ ⟨BY h5,Dly.dh ⟨h5,i.toNat,by omega,hj.j⟩,rfl,trivial⟩);rw [this,w1,YG rfl];have ey:evY ⟨l,n,x⟩ ⟨s,i⟩=evX (atE l i) s:=if_neg h5;rw [ey]
  ·cases e
 ·unfold tz at e;split at e
  ·cases e
  ·rename_i hc;have hc:¬ i<(n:Int):=hc;have hx:=T.aik (aes s l n x i) ⟨BY hc,trivial⟩;unfold outSe at hr;dsimp only at hr;cases hu:s.qu.isSome with
   | false =>
    obtain rfl:=AI (Dec.fE hr hu);refine ⟨by simp,?_⟩;rw [ED hj.g.c hu];exact hx
   | true =>
    obtain rfl:=AI (Dec.fH hr hu);refine ⟨by simp,?_⟩;rw [ED hj.g.c hu];exact hx
def famSe:bK:=j5 [0,1,5,6] SSe 5000 5080 95 OC (cK KO) tz outSe
theorem PT:aL FS Z6 famSe:=dN (vs:=ab1) (bs:=YR) WZ mixed (az _) Kd aaC ad9 fun p a h=>by
 rw [<- T.aim (t:=bB _ _ _ _ _ _ _ _)];exact hrSe p a h
def setL:Eng.Spec:=aE FS (cH [(ahj,famSe)]) 3
theorem QD:ah Tryz.prog 3 setL:=eP WZ mixed Tryz.func3 (by kernel_rfl) (by kernel_rfl) (cy (c:=Z6) (by kernel_rfl) RP PT)
def pS (l:List Ev3) (x:Int):PSe:=⟨l,l.length,x⟩
def zS (l:List Ev3) (x:Int):aq:=(cP (tz (pS l x)) ⟨s0 Conf.aiB,0⟩).s
def X6 (x:Int):Int:=Int.tmod (IntKind.wrap .u64 x) 6
def v7 (s:aq):V7:=⟨s.t,s.w,s.aP,s.px,s.e1,s.e2,s.e0,s.e1,s.e2,s.e3,s.e4,s.e5,s.e6,ovD s⟩
def tkL (l:List Ev3):List Ev3:=List.take l.length (List.drop 0 l)
def hdL (l:List Ev3) (b:Bool):List (Bool × Bool):=[(true,true),(false,false),(true,true),(false,false),(decide (0+l.length<=l.length),true),(decide ((tkL l).length<=9223372036854775807),true),(!Evt.few (tkL l) 30,b)]
def aie (q:Bool) (l:List Ev3) (x:Int):List (Bool × Bool):=[(cK KO (pS l x) ⟨s0 Conf.aiB,0⟩,true),((zS l x).qu.isSome,q),(Lif.okN (dfQ q (zS l x)).ln (dfQ q (zS l x)).lp,true),((6:Int)==0,false)]
def aha (q:Bool) (l:List Ev3) (x:Int):List (Bool × Bool):=[(true,true),(Dly.pB (YA (dfQ q (zS l x))),true),(q,q),(false,false),(false,false),(Lif.okN (dfQ q (zS l x)).ln (dfQ q (zS l x)).lp,true),
 (Dly.pB (ad7 (v7 (dfQ q (zS l x))) (v7 (dfQ q (zS l x))) (dfQ q (zS l x)).lp.length (dfQ q (zS l x)).lp.length (dfQ q (zS l x)).lp (dfQ q (zS l x)).lp),true),(false,false),(true,true),(Dly.pB (YA (dfQ q (zS l x))),true),(q,q)]
def resL (c:Conf.Cf):Bool:=bif bif bif bif true then (0:Int)==0 else false then c.target==7500 else false then c.util==500 else false then c.limit==10 else false
def gZ (q:Bool) (l:List Ev3) (x:Int):aq:=snD (gS (dfQ q (zS l x)))
theorem acA (l:List Ev3) (x:Int):T.path [true,false,true,false,true,true,true] (T.anon (setL [Evt.SB l,Eng.iv x]))=some (hdL l true,.tt):=by kernel_rfl
theorem aew (q:Bool) (l:List Ev3) (x:Int):((List.range 6).map fun j=>T.path ([true,false,true,false,true,true,false,true,q,true,false]++(List.replicate j false++(true::[true,true,q,false,false,true,true,false,true,true,q]))) (T.anon (setL [Evt.SB l,Eng.iv x])))=(List.range 6).map fun j=>some (hdL l false++(aie q l x++(abc (X6 x) 0 j++aha q l x)),.s (.bool (resL (gZ q l x).c))):=by cases q<;>kernel_rfl
theorem JD_0:JD 0 (s0 Conf.aiB):=by
 have hm:Conf.ew Conf.aiB=true:=by kernel_rfl
 exact ⟨⟨Zg hm (by decide),aeV hm,ajc 0,ai9 0⟩,(by show GK (s0 Conf.aiB)=_;kernel_rfl)⟩
theorem MY (l:List Ev3):tkL l=l:=by unfold tkL;simp
theorem SD (l:List Ev3) (hl:l.length<=maxLen) (x:Int):(setL [Evt.SB l,Eng.iv x]).yes:=by
 have hl:l.length<=9223372036854775807:=ajn hl (by decide);have c1:decide (0+l.length<=l.length)=true:=sh (by omega);have c2:decide ((tkL l).length<=9223372036854775807)=true:=by rw [MY];exact sh hl
 unfold T.yes;rw [<- T.aim (t:=setL _)];cases hf:Evt.few (tkL l) 30 with
 | false=>exact Or.inl (T.aik (acA l x) ⟨rfl,rfl,rfl,rfl,c1,c2,by rw [hf];rfl,trivial⟩)
 | true =>
  refine Or.inr ?_;have hb:l.length<=30:=by
   have h:=hf;rw [MY] at h;unfold Evt.few at h;rw [AS] at h;have:=IN h.2;omega
  have h0:KO (pS l x) ⟨s0 Conf.aiB,0⟩:=⟨rfl,hb,ai9 0,by show (0:Int)<=(l.length:Int);omega,JD_0⟩
  obtain ⟨e1,-,-⟩:=cQ (nxt:=tz (pS l x)) (I:=fun a=>KO (pS l x) a) (μ:=aaC (pS l x)) (fun a b h e=>⟨bN (ad9 _ a b (aJ h) e).1,(ad9 _ a b (aJ h) e).2⟩) h0;have hz:∃ k,k<=30/\JD k (zS l x):=by
   have i0:=e1.i0;have i1:=e1.i1;have hn:(pS l x).n=l.length:=rfl;exact ⟨_,by omega,e1.j⟩
  obtain ⟨k,hk,jz⟩:=hz;have W:=fun q=>Al (aew q l x);have eD:∀ q,(zS l x).qu.isSome=q->dfQ q (zS l x)=zS l x:=fun q hq=>ED jz.g.c hq;unfold aie aha gZ at W;revert W jz eD;generalize zS l x=z;intro jz W eD;obtain ⟨q,hq⟩:∃ q,z.qu.isSome=q:=⟨_,rfl⟩
  have W:=W q;rw [eD q hq] at W;have i:=jz.j.si;have hlen:z.lp.length<=1000000:=by
   have a:=i.ai1.1;have f2:=i.f2;have c2:=kN 2 z.rq;have r:=jz.j.rq;omega
  have oN:Lif.okN z.ln z.lp=true:=by rw [i.ln];exact Lif.ig i.free.n
  have oG:Dly.pB (YA z)=true:=Dly.dh ⟨_,jz⟩;have hX:0<=IntKind.wrap .u64 x:=by show 0<=x % 18446744073709551616;exact Int.emod_nonneg _ (by decide)
  have hm:X6 x=IntKind.wrap .u64 x % 6:=Int.tmod_eq_emod_of_nonneg hX;have m0:=Int.emod_nonneg (IntKind.wrap .u64 x) (show (6:Int)≠0 by decide);have m1:=Int.emod_lt_of_pos (IntKind.wrap .u64 x) (show (0:Int)<6 by decide);have hj:(X6 x).toNat<6:=by omega
  have way:=T.aik (W _ hj) (au ⟨rfl,rfl,rfl,rfl,c1,c2,by rw [hf];rfl,trivial⟩ (au ⟨aJ h0,hq,oN,rfl,trivial⟩ (au (tw (by omega)) ⟨rfl,oG,rfl,rfl,rfl,oN,Dly.dh ⟨rfl,rfl,rfl,rfl,hlen⟩,rfl,rfl,oG,rfl,trivial⟩)));have hc:(snD (gS z)).c=cG:=by
   have e:=fm (Cp jz).2;have:(core (snD (gS z))).c=(core (gS z)).c:=congrArg aq.c e;exact this
  rw [way,hc];rfl
theorem set_walk (a0:List Ev3) (z0:a0.length<=maxLen) (w0:∀ x∈a0,Law.Tx.GoodRow [.int .i64,.int .i64,.str] x) (x0:Value) (x:Int) (wx:(Lit.int .i64 x).wf=true) (w:World) (hG:Glob w) (hx0:holdsP 0 w (.orow 28 [.int .i64,.int .i64,.str] a0) x0) :
  Calls Tryz.prog 3 #[x0,.int .i64 x] w fun e w'=>e=.returned (.bool true)/\Below w.heap.size w w' :=
 Law.IZ (args:=[Evt.SB a0,Eng.iv x]) (xs:=[x0,.int .i64 x]) QD rfl (SD a0 z0 x) w ⟨hx0,rfl,trivial⟩ hG
end Go.Proofs.YtcbgmdpkhfahmaaGreatDoor.Sys
end
