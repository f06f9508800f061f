/- Trees as the machine prints them. -/
import Derived.Test.YtmijloophkkanaaSamO
import Derived.Test.YtmijloophkkanaaYes
namespace Go.Proofs.Ytmijloophkkanaa.Sam
open Go.Eng Go.RowKit
set_option linter.unusedVariables false
set_option maxRecDepth 100000
noncomputable def rtI (r k : Int) (l : List Int) (j : Nat) (i : Int) : T (Ex × St) := T.ite none (decide (i < k))
  (T.ite none
    (true &&
      (decide (j ≤ List.length l) &&
        decide (j + List.length [IntKind.wrap IntKind.i64 (IntKind.wrap IntKind.i64 (7 * i) + 3)] ≤ 1000000)))
    (T.ret
      (Ex.normal,
        {
          tmps :=
            [(1, V.s (S.int IntKind.i64 r)), (5, V.s (S.int IntKind.i64 k)),
              (6, V.sub 1000 1 0 (j + List.length [IntKind.wrap IntKind.i64 (IntKind.wrap IntKind.i64 (7 * i) + 3)])),
              (7, V.s (S.int IntKind.i64 (IntKind.wrap IntKind.i64 (i + 1))))],
          heap :=
            [(1000,
                Blk.lst true 3 [K.int IntKind.i64]
                  (List.take j l ++ [IntKind.wrap IntKind.i64 (IntKind.wrap IntKind.i64 (7 * i) + 3)]))],
          next := 1001, size := 93 }))
    T.fail)
  (T.ret
    (Ex.exit 0,
      {
        tmps :=
          [(1, V.s (S.int IntKind.i64 r)), (5, V.s (S.int IntKind.i64 k)), (6, V.sub 1000 1 0 j),
            (7, V.s (S.int IntKind.i64 i))],
        heap := [(1000, Blk.lst true 3 [K.int IntKind.i64] l)], next := 1001, size := 93 }))
noncomputable def rtJ (k : Int) (g : List Int) (j : Nat) (l : List Int) (n : Nat) (i : Int) : T (Ex × St) := T.ite none (decide (i < (↑n : Int)))
  (T.ite none
    (decide (0 ≤ IntKind.wrap IntKind.i64 (i - 1)) &&
      (decide (IntKind.wrap IntKind.i64 (i - 1) < (↑n : Int)) &&
        decide (0 + Int.toNat (IntKind.wrap IntKind.i64 (i - 1)) < List.length l)))
    (T.ite none (decide (0 + Int.toNat (IntKind.wrap IntKind.i64 (i - 1)) < List.length l))
      (T.ite none
        (decide (0 ≤ IntKind.wrap IntKind.i64 (i - 1)) &&
          (decide (IntKind.wrap IntKind.i64 (i - 1) < (↑n : Int)) &&
            decide (0 + Int.toNat (IntKind.wrap IntKind.i64 (i - 1)) < List.length l)))
        (T.ite none (decide (0 + Int.toNat (IntKind.wrap IntKind.i64 (i - 1)) < List.length l))
          (T.ite none
            (List.getD l (0 + Int.toNat (IntKind.wrap IntKind.i64 (i - 1))) (Row.dflt [K.int IntKind.i64]) ==
              IntKind.wrap IntKind.i64 (IntKind.wrap IntKind.i64 (7 * IntKind.wrap IntKind.i64 (k - 1)) + 3))
            (T.ite none (decide (0 ≤ i) && (decide (i < (↑n : Int)) && decide (0 + Int.toNat i < List.length l)))
              (T.ite none (decide (0 + Int.toNat i < List.length l))
                (T.ite none (gI l i != 3)
                  (T.ret
                    (Ex.ret,
                      {
                        tmps :=
                          [(5, V.s (S.int IntKind.i64 k)), (6, V.sub 1000 1 0 j), (8, V.sub 2000 1 0 n),
                            (9, V.s (S.int IntKind.i64 i))],
                        heap :=
                          [(1000, Blk.lst true 3 [K.int IntKind.i64] g), (2000, Blk.lst true 3 [K.int IntKind.i64] l)],
                        next := 2001, size := 93 }))
                  (T.ret
                    (Ex.normal,
                      {
                        tmps :=
                          [(5, V.s (S.int IntKind.i64 k)), (6, V.sub 1000 1 0 j), (8, V.sub 2000 1 0 n),
                            (9, V.s (S.int IntKind.i64 (IntKind.wrap IntKind.i64 (i + 1))))],
                        heap :=
                          [(1000, Blk.lst true 3 [K.int IntKind.i64] g), (2000, Blk.lst true 3 [K.int IntKind.i64] l)],
                        next := 2001, size := 93 })))
                T.fail)
              T.fail)
            (T.ite none (decide (0 ≤ i) && (decide (i < (↑n : Int)) && decide (0 + Int.toNat i < List.length l)))
              (T.ite none (decide (0 + Int.toNat i < List.length l))
                (T.ite none
                  (gI l i !=
                    IntKind.wrap IntKind.i64
                      (List.getD l (0 + Int.toNat (IntKind.wrap IntKind.i64 (i - 1))) (Row.dflt [K.int IntKind.i64]) +
                        7))
                  (T.ret
                    (Ex.ret,
                      {
                        tmps :=
                          [(5, V.s (S.int IntKind.i64 k)), (6, V.sub 1000 1 0 j), (8, V.sub 2000 1 0 n),
                            (9, V.s (S.int IntKind.i64 i))],
                        heap :=
                          [(1000, Blk.lst true 3 [K.int IntKind.i64] g), (2000, Blk.lst true 3 [K.int IntKind.i64] l)],
                        next := 2001, size := 93 }))
                  (T.ret
                    (Ex.normal,
                      {
                        tmps :=
                          [(5, V.s (S.int IntKind.i64 k)), (6, V.sub 1000 1 0 j), (8, V.sub 2000 1 0 n),
                            (9, V.s (S.int IntKind.i64 (IntKind.wrap IntKind.i64 (i + 1))))],
                        heap :=
                          [(1000, Blk.lst true 3 [K.int IntKind.i64] g), (2000, Blk.lst true 3 [K.int IntKind.i64] l)],
                        next := 2001, size := 93 })))
                T.fail)
              T.fail))
          T.fail)
        T.fail)
      T.fail)
    T.fail)
  (T.ret
    (Ex.exit 2,
      {
        tmps :=
          [(5, V.s (S.int IntKind.i64 k)), (6, V.sub 1000 1 0 j), (8, V.sub 2000 1 0 n),
            (9, V.s (S.int IntKind.i64 i))],
        heap := [(1000, Blk.lst true 3 [K.int IntKind.i64] g), (2000, Blk.lst true 3 [K.int IntKind.i64] l)],
        next := 2001, size := 93 }))
end Go.Proofs.Ytmijloophkkanaa.Sam
