/- Trees as the machine prints them. -/
import Derived.Test.Ytmijloophkkanaa15D
import Derived.Test.YtmijloophkkanaaYes
namespace Go.Proofs.Ytmijloophkkanaa.Del
open Go.Eng Go.RowKit
set_option linter.unusedVariables false
set_option maxRecDepth 100000
noncomputable def rtD (s a w : Int) (k : Nat) (l : List Stp) : T (Ex × St) := T.ite none ((↑k : Int) == 0)
  (T.ret
    (Ex.ret,
      { tmps := [(0, V.ptr 0 0), (1, V.s (S.int IntKind.i64 w))],
        heap :=
          [(0, Blk.cells 96 [V.s (S.int IntKind.i64 s), V.s (S.int IntKind.i64 a), V.sub 1 2 0 k]),
            (1, Blk.lst true 99 [K.int IntKind.i64, K.int IntKind.i64] l)],
        next := 1000, size := 34 }))
  (T.ite none
    (decide (0 ≤ IntKind.wrap IntKind.i64 ((↑k : Int) - 1)) &&
      (decide (IntKind.wrap IntKind.i64 ((↑k : Int) - 1) < (↑k : Int)) &&
        decide (0 + Int.toNat (IntKind.wrap IntKind.i64 ((↑k : Int) - 1)) < List.length l)))
    (T.ite none (decide (0 + Int.toNat (IntKind.wrap IntKind.i64 ((↑k : Int) - 1)) < List.length l))
      (T.ite none
        (decide
          (w <
            Prod.snd
              (List.getD l (0 + Int.toNat (IntKind.wrap IntKind.i64 ((↑k : Int) - 1)))
                (Row.dflt [K.int IntKind.i64, K.int IntKind.i64]))))
        (T.ret
          (Ex.ret,
            { tmps := [(0, V.ptr 0 0), (1, V.s (S.int IntKind.i64 w))],
              heap :=
                [(0, Blk.cells 96 [V.s (S.int IntKind.i64 s), V.s (S.int IntKind.i64 a), V.sub 1 2 0 k]),
                  (1, Blk.lst true 99 [K.int IntKind.i64, K.int IntKind.i64] l)],
              next := 1000, size := 34 }))
        (T.ite none
          (decide (0 ≤ 0) &&
            (decide (0 ≤ IntKind.wrap IntKind.i64 ((↑k : Int) - 1)) &&
              (decide (IntKind.wrap IntKind.i64 ((↑k : Int) - 1) ≤ (↑k : Int)) && decide (k ≤ List.length l))))
          (T.ret
            (Ex.normal,
              { tmps := [(0, V.ptr 0 0), (1, V.s (S.int IntKind.i64 w))],
                heap :=
                  [(0,
                      Blk.cells 96
                        [V.s (S.int IntKind.i64 s), V.s (S.int IntKind.i64 a),
                          V.sub 1 2 0 (Int.toNat (IntKind.wrap IntKind.i64 ((↑k : Int) - 1)) - Int.toNat 0)]),
                    (1, Blk.lst true 99 [K.int IntKind.i64, K.int IntKind.i64] l)],
                next := 1000, size := 34 }))
          T.fail))
      T.fail)
    T.fail)
noncomputable def rtW (s a t : Int) (k : Nat) (l : List Stp) (n i : Int) (j : Nat) : T (Ex × St) := T.ite none (decide (i < n))
  (T.ite none (decide (0 ≤ i) && (decide (i < (↑k : Int)) && decide (0 + Int.toNat i < List.length l)))
    (T.ite none (decide (0 + Int.toNat i < List.length l))
      (T.ite none
        (bif
            decide (t ≤ Prod.fst (List.getD l (0 + Int.toNat i) (Row.dflt [K.int IntKind.i64, K.int IntKind.i64]))) then
          true
        else
          decide
            (IntKind.wrap IntKind.i64 (t - s) <
              Prod.fst (List.getD l (0 + Int.toNat i) (Row.dflt [K.int IntKind.i64, K.int IntKind.i64]))))
        (T.ret
          (Ex.ret,
            {
              tmps :=
                [(0, V.ptr 0 0), (1, V.s (S.int IntKind.i64 t)),
                  (4,
                    V.iface 99
                      (V.agg
                        [V.s
                            (S.int IntKind.i64
                              (Prod.fst
                                (List.getD l (0 + Int.toNat i) (Row.dflt [K.int IntKind.i64, K.int IntKind.i64])))),
                          V.s
                            (S.int IntKind.i64
                              (Prod.snd
                                (List.getD l (0 + Int.toNat i) (Row.dflt [K.int IntKind.i64, K.int IntKind.i64]))))])),
                  (10, V.sub 1 2 0 k), (11, V.s (S.int IntKind.i64 n)), (12, V.s (S.int IntKind.i64 i))],
              heap :=
                [(0, Blk.cells 96 [V.s (S.int IntKind.i64 s), V.s (S.int IntKind.i64 a), V.sub 1 2 0 j]),
                  (1, Blk.lst true 99 [K.int IntKind.i64, K.int IntKind.i64] l)],
              next := 1000, size := 36 }))
        (T.ret
          (Ex.normal,
            {
              tmps :=
                [(0, V.ptr 0 0), (1, V.s (S.int IntKind.i64 t)), (4, V.nilIface), (10, V.sub 1 2 0 k),
                  (11, V.s (S.int IntKind.i64 n)), (12, V.s (S.int IntKind.i64 (IntKind.wrap IntKind.i64 (i + 1))))],
              heap :=
                [(0, Blk.cells 96 [V.s (S.int IntKind.i64 s), V.s (S.int IntKind.i64 a), V.sub 1 2 0 j]),
                  (1, Blk.lst true 99 [K.int IntKind.i64, K.int IntKind.i64] l)],
              next := 1000, size := 36 })))
      T.fail)
    T.fail)
  (T.ret
    (Ex.exit 0,
      {
        tmps :=
          [(0, V.ptr 0 0), (1, V.s (S.int IntKind.i64 t)), (4, V.nilIface), (10, V.sub 1 2 0 k),
            (11, V.s (S.int IntKind.i64 n)), (12, V.s (S.int IntKind.i64 i))],
        heap :=
          [(0, Blk.cells 96 [V.s (S.int IntKind.i64 s), V.s (S.int IntKind.i64 a), V.sub 1 2 0 j]),
            (1, Blk.lst true 99 [K.int IntKind.i64, K.int IntKind.i64] l)],
        next := 1000, size := 36 }))
end Go.Proofs.Ytmijloophkkanaa.Del
