/- The machine: a method that only reads one block, by its contract over objects. No program is named here. -/
import Derived.Test.YtheknddbbgjpkaaEngK
namespace Go.Eng
open Go.RowKit
set_option linter.unusedVariables false
set_option linter.unusedSimpArgs false
theorem ObjOk.get {P : Program} {f : Nat} {sp : Obj} (h : ObjOk P f sp) (t : TypeId) (g : List V → List V → T V)
    (he : ∀ l args v, flatL l = true → flatL args = true → (g l args).eval = some v → flat v = true → (sp (.ptr 0 0 :: args) [(0, .cells t l)]).eval = some (v, [(0, .cells t l)])) : GetOk P f t g := by
  refine ⟨h.body, fun l args v b w hl ha hv hfv hb => ?_⟩
  let ν : Env := fun j => if j = 0 then ⟨⟨b, 0, 0, none, false⟩, fun k => k = b⟩ else ⟨⟨0, 0, 0, none, false⟩, fun _ => False⟩
  have n0 : ν 0 = ⟨⟨b, 0, 0, none, false⟩, fun k => k = b⟩ := by simp [ν]
  have hlook : ∀ i bk, look [(0, Blk.cells t l)] i = some bk → i = 0 ∧ bk = .cells t l := by
    intro i bk e
    simp only [look] at e
    split at e
    · rename_i q
      exact ⟨(by simpa using q : 0 = i).symm, (Option.some.inj e).symm⟩
    · cases e
  have hrel : Rel ν (look [(0, .cells t l)]) w := by
    refine ⟨fun i bk e => ?_, fun i j bi bj ne ei ej => absurd ((hlook i bi ei).1.trans (hlook j bj ej).1.symm) ne⟩
    obtain ⟨rfl, rfl⟩ := hlook i bk e
    rw [n0]
    exact ⟨rfl, fun k => Iff.rfl, by rw [flatL_den hl ν nu0]; exact hb⟩
  have h0 : inH [(0, Blk.cells t l)] 0 = true := rfl
  have hno : ∀ i, (fun _ : Nat => false) i = true → inH [(0, Blk.cells t l)] i = true := fun i hi => by cases hi
  have hno' : ∀ i, (fun _ : Nat => false) i = true → inO [(0, Blk.cells t l)] [(0, Blk.cells t l)] i = true := fun i hi => by cases hi
  have hok : okL (inH [(0, Blk.cells t l)]) (.ptr 0 0 :: args) = true := by
    simp only [okL, Bool.and_eq_true]
    exact ⟨h0, okL_mono hno args ha⟩
  have hbk : ∀ i bk, look [(0, Blk.cells t l)] i = some bk → bk.ok (inH [(0, Blk.cells t l)]) = true ∧ i < [(0, Blk.cells t l)].length := by
    intro i bk e
    obtain ⟨rfl, rfl⟩ := hlook i bk e
    exact ⟨okL_mono hno l hl, Nat.zero_lt_one⟩
  have hout : outO [(0, Blk.cells t l)] v [(0, Blk.cells t l)] = true := by
    unfold outO
    simp only [Bool.and_eq_true, List.all_cons, List.all_nil, and_true]
    exact ⟨V.ok_mono hno' v hfv, ⟨rfl, okL_mono hno' l hl⟩, rfl⟩
  have hc := h.calls (.ptr 0 0 :: args) [(0, .cells t l)] v [(0, .cells t l)] ν w hok hbk hrel (he l args v hl ha hv hfv) hout
  have ea : (denL ν (.ptr 0 0 :: args)).toArray = (Value.pointer (some ⟨b, 0, none⟩) :: denL nu0 args).toArray := by
    show ((V.ptr 0 0).den ν :: denL ν args).toArray = _
    rw [flatL_den ha ν nu0]
    simp [V.den, n0]
  rw [ea] at hc
  refine hc.mono ?_
  rintro e w' ⟨ν', rfl, hcore, hr, hown, hprog⟩
  refine ⟨by rw [flat_den hfv ν' nu0], hprog.os, hprog.tape, hprog.output, hprog.size, fun k hk => ?_⟩
  by_cases q : k = b
  · obtain ⟨d1, d2, d3⟩ := hr.den 0 (.cells t l) rfl
    have hc0 := hcore 0 h0
    rw [n0] at hc0
    rw [hc0, flatL_den hl ν' nu0] at d3
    rw [q, hb]
    exact d3
  · refine hprog.block k hk ?_
    rintro ⟨j, bj, ej, -, hj⟩
    obtain ⟨rfl, rfl⟩ := hlook j bj ej
    rw [n0] at hj
    exact q hj
/-! ### a method that reads all that it is led to: where its contract over objects changes nothing -/
def cellsB : Blk → Bool
  | .cells .. => true
  | _ => false
def seeH (h : Heap) : Bool := nodupN (keysN h) && h.all fun p => cellsB p.2
theorem ObjOk.see {P : Program} {f : Nat} {sp : Obj} (h : ObjOk P f sp) (g : List V → Heap → T V)
    (he : ∀ args hp v, (g args hp).eval = some v → flat v = true → seeH hp = true ∧ (sp args hp).eval = some (v, hp)) : SeeOk P f g := by
  refine ⟨h.body, fun args hp v ν w ha hb hr hv hfv => ?_⟩
  obtain ⟨hs, hsp⟩ := he args hp v hv hfv
  unfold seeH at hs
  simp only [Bool.and_eq_true] at hs
  have hmem : ∀ i b, (i, b) ∈ hp → look hp i = some b := fun i b hm => look_mem_nodup hs.1 hm
  have hcell : ∀ i b, look hp i = some b → cellsB b = true := fun i b e => List.all_eq_true.1 hs.2 _ (mem_of_look e)
  have hown : ∀ b, cellsB b = true → b.owned = true := by
    intro b e
    cases b <;> first | rfl | (cases e; done)
  have hio : ∀ i, inH hp i = true → inO hp hp i = true := fun i hi => by unfold inO; rw [hi]; rfl
  have hokm : ∀ b, cellsB b = true → b.ok (inH hp) = true → b.ok (inO hp hp) = true := by
    intro b e q
    cases b with
    | cells t l => exact okL_mono hio l q
    | _ => cases e
  have hout : outO hp v hp = true := by
    unfold outO
    simp only [Bool.and_eq_true]
    refine ⟨V.ok_mono (fun i hi => by cases hi) v hfv, List.all_eq_true.2 fun p hp' => ?_⟩
    obtain ⟨i, b⟩ := p
    have e := hmem i b hp'
    simp only [Bool.and_eq_true]
    exact ⟨⟨hown b (hcell i b e), hokm b (hcell i b e) (hb i b e).1⟩, by rw [e]; exact hown b (hcell i b e)⟩
  have hc := h.calls args hp v hp ν w ha hb hr hsp hout
  refine hc.mono ?_
  rintro e w' ⟨ν', rfl, hcore, hr', hown', hprog⟩
  refine ⟨by rw [flat_den hfv ν' nu0], hprog.os, hprog.tape, hprog.output, hprog.size, fun k hk => ?_⟩
  by_cases q : ownFp ν hp k
  · obtain ⟨j, b, e, ho, hj⟩ := q
    have hcb := hcell j b e
    cases b with
    | cells t l =>
      obtain ⟨d1, d2, d3⟩ := hr.den j _ e
      obtain ⟨e1, e2, e3⟩ := hr'.den j _ e
      have hk2 : k = (ν j).core.blk := (d2 k).1 hj
      have hin : inH hp j = true := by unfold inH; rw [e]; rfl
      have hl : denL ν' l = denL ν l := denL_congr (p := inH hp) (fun i hi => hcore i hi) l (hb j _ e).1
      rw [hcore j hin, hl] at e3
      rw [hk2, d3]
      exact e3
    | _ => cases hcb
  · exact hprog.block k hk q
/-! ### numbers made plain at once: for closed runs -/
def frcN {α : Type} (n : Nat) (k : Nat → T α) : T α :=
  match n with
  | 0 => k 0
  | m + 1 => k (m + 1)
theorem frcN_eq {α : Type} (n : Nat) (k : Nat → T α) : frcN n k = k n := by cases n <;> rfl
def frcI {α : Type} (n : Int) (k : Int → T α) : T α :=
  match n with
  | .ofNat m => frcN m fun m => k (.ofNat m)
  | .negSucc m => frcN m fun m => k (.negSucc m)
theorem frcI_eq {α : Type} (n : Int) (k : Int → T α) : frcI n k = k n := by
  cases n <;> (unfold frcI; simp only [frcN_eq])
def frcV {α : Type} (v : V) (k : V → T α) : T α :=
  match v with
  | .s (.cx q x y) => frcN x fun x => frcN y fun y => k (.s (.cx q x y))
  | .s (.int q n) => frcI n fun n => k (.s (.int q n))
  | .s (.bool b) => bif b then k (.s (.bool true)) else k (.s (.bool false))
  | v => k v
theorem frcV_eq {α : Type} (v : V) (k : V → T α) : frcV v k = k v := by
  unfold frcV
  split
  · rw [frcN_eq, frcN_eq]
  · rw [frcI_eq]
  · rename_i b; cases b <;> rfl
  · rfl
def frcL {α : Type} : List V → (List V → T α) → T α
  | [], k => k []
  | v :: r, k => frcV v fun v => frcL r fun r => k (v :: r)
theorem frcL_eq {α : Type} : ∀ (l : List V) (k : List V → T α), frcL l k = k l
  | [], k => rfl
  | v :: r, k => by unfold frcL; rw [frcV_eq, frcL_eq r]
def frcW {α : Type} (v : V) (k : V → T α) : T α :=
  match v with
  | .tup l => frcL l fun l => k (.tup l)
  | v => frcV v k
theorem frcW_eq {α : Type} (v : V) (k : V → T α) : frcW v k = k v := by
  unfold frcW
  split
  · rw [frcL_eq]
  · rw [frcV_eq]
def frcK {α : Type} : (k : K) → k.T → (k.T → T α) → T α
  | .int _, n, f => frcI n f
  | .bool, b, f => bif b then f true else f false
  | .str, s, f => f s
  | .fl _, b, f => frcN b f
  | .cx _, z, f => f z
theorem frcK_eq {α : Type} (k : K) (x : k.T) (f : k.T → T α) : frcK k x f = f x := by
  cases k with
  | int _ => exact frcI_eq _ _
  | bool => cases x <;> rfl
  | str => rfl
  | fl _ => exact frcN_eq _ _
  | cx _ => rfl
def frcRow {α : Type} : (ks : List K) → Row ks → (Row ks → T α) → T α
  | [], x, f => f x
  | [k], x, f => frcK k x f
  | k :: k2 :: r, x, f => frcK k x.1 fun a => frcRow (k2 :: r) x.2 fun b => f (a, b)
theorem frcRow_eq {α : Type} : ∀ (ks : List K) (x : Row ks) (f : Row ks → T α), frcRow ks x f = f x
  | [], x, f => rfl
  | [k], x, f => frcK_eq k x f
  | k :: k2 :: r, x, f => by unfold frcRow; rw [frcK_eq, frcRow_eq]; rfl
def frcO {α : Type} (ks : List K) (o : Option (Row ks)) (f : Option (Row ks) → T α) : T α :=
  match o with
  | none => f none
  | some x => frcRow ks x fun x => f (some x)
theorem frcO_eq {α : Type} (ks : List K) (o : Option (Row ks)) (f : Option (Row ks) → T α) : frcO ks o f = f o := by
  cases o with
  | none => rfl
  | some x => exact frcRow_eq ks x _
def frcB {α : Type} (ks : List K) : List (Option (Row ks)) → (List (Option (Row ks)) → T α) → T α
  | [], f => f []
  | o :: r, f => frcO ks o fun o => frcB ks r fun r => f (o :: r)
theorem frcB_eq {α : Type} (ks : List K) : ∀ (l : List (Option (Row ks))) (f : List (Option (Row ks)) → T α), frcB ks l f = f l
  | [], f => rfl
  | o :: r, f => by unfold frcB; rw [frcO_eq, frcB_eq ks r]
def frcH {α : Type} : Heap → (Heap → T α) → T α
  | [], k => k []
  | (i, .cells t l) :: r, k => frcL l fun l => frcH r fun r => k ((i, .cells t l) :: r)
  | (i, .bx t tp tb ks l g x) :: r, k => frcB ks l fun l => frcH r fun r => k ((i, .bx t tp tb ks l g x) :: r)
  | p :: r, k => frcH r fun r => k (p :: r)
theorem frcH_eq {α : Type} : ∀ (h : Heap) (k : Heap → T α), frcH h k = k h
  | [], k => rfl
  | (i, .cells t l) :: r, k => by unfold frcH; rw [frcL_eq, frcH_eq r]
  | (i, .ro t l) :: r, k => by unfold frcH; rw [frcH_eq r]
  | (i, .leaf b) :: r, k => by unfold frcH; rw [frcH_eq r]
  | (i, .lst o t ks l) :: r, k => by unfold frcH; rw [frcH_eq r]
  | (i, .dead) :: r, k => by unfold frcH; rw [frcH_eq r]
  | (i, .bx t tp tb ks l g x) :: r, k => by unfold frcH; rw [frcB_eq, frcH_eq r]
theorem T.bind_ret' {α : Type} {t : T α} {v : α} (h : (t.bind fun x => .ret x).eval = some v) : t.eval = some v := by
  obtain ⟨x, h1, h2⟩ := T.eval_bind_some h
  rw [h1, ← h2]; rfl
/-- a contract whose results are numbers made plain -/
def Obj.plain (sp : Obj) : Obj := fun args h => frcH h fun h => frcL args fun args => (sp args h).bind fun r => frcW r.1 fun v => frcH r.2 fun h' => .ret (v, h')
theorem ObjOk.plain {P : Program} {f : Nat} {sp : Obj} (h : ObjOk P f sp) : ObjOk P f sp.plain := h.of_eval fun args hp v hv => by
  unfold Obj.plain at hv
  rw [frcH_eq, frcL_eq] at hv
  have e : (fun r : V × Heap => frcW r.1 fun v => frcH r.2 fun h' => (.ret (v, h') : T (V × Heap))) = fun r => .ret r := by
    funext r; rw [frcW_eq, frcH_eq]
  rw [e] at hv
  exact T.bind_ret' hv
def Spec.plain (sp : Eng.Spec) : Eng.Spec := fun args => frcL args fun args => (sp args).bind fun v => frcW v fun v => .ret v
theorem SpecOk.plain {P : Program} {f : Nat} {sp : Eng.Spec} (h : SpecOk P f sp) : SpecOk P f (Spec.plain sp) := h.of_eval fun args v hv => by
  unfold Spec.plain at hv
  rw [frcL_eq] at hv
  have e : (fun v : V => frcW v fun v => (.ret v : T V)) = fun v => .ret v := by
    funext v; rw [frcW_eq]
  rw [e] at hv
  exact T.bind_ret' hv
end Go.Eng
