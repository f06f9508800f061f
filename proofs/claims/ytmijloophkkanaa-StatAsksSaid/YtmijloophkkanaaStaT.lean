/- Trees as the machine prints them. -/
import Derived.Test.YtmijloophkkanaaStaD
import Derived.Test.YtmijloophkkanaaYes
namespace Go.Proofs.Ytmijloophkkanaa.Sta
open Go.Eng Go.RowKit Mil
set_option linter.unusedVariables false
set_option maxRecDepth 100000
noncomputable def rtA (age : Int) (l : List St3) (k : Nat) (n s c : Int) (u : Bool) (i : Int) : T (Ex × St) := T.ite none (decide (i < n))
  (T.ite none (decide (0 ≤ i) && (decide (i < (↑k : Int)) && decide (0 + Int.toNat i < List.length l)))
    (T.ite none (decide (0 + Int.toNat i < List.length l))
      (T.ite none
        (bif
            !mayR
                (Prod.fst
                    (g3 l i),
                  Prod.fst
                    (Prod.snd
                      (g3 l i)),
                  Prod.snd
                    (Prod.snd
                      (g3 l i))) then
          true
        else
          decide
            (Prod.fst
                (Prod.snd
                  (g3 l i)) <
              age))
        (T.ret
          (Ex.normal,
            {
              tmps :=
                [(1, V.s (S.int IntKind.i64 age)), (5, V.ptr 1 0),
                  (10, V.sub 0 3 0 (PA1.k { age := age, l := l, k := k, n := n })), (11, V.s (S.int IntKind.i64 n)),
                  (12, V.s (S.int IntKind.i64 (IntKind.wrap IntKind.i64 (i + 1))))],
              heap :=
                [(0, Blk.lst false 23 [K.int IntKind.i64, K.int IntKind.i64, K.int IntKind.i64] l),
                  (1, Blk.cells 71 [V.s (S.int IntKind.i64 s), V.s (S.int IntKind.i64 c), V.s (S.bool u)])],
              next := 1000, size := 54 }))
        (T.ite none
          (inR s &&
            inR
              (Prod.snd
                (Prod.snd
                  (g3 l i))))
          (T.ite none (u == false)
            (T.ite none (u == false)
              (T.ite none u
                (T.ret
                  (Ex.normal,
                    {
                      tmps :=
                        [(1, V.s (S.int IntKind.i64 age)), (5, V.ptr 1 0),
                          (10, V.sub 0 3 0 (PA1.k { age := age, l := l, k := k, n := n })),
                          (11, V.s (S.int IntKind.i64 n)),
                          (12, V.s (S.int IntKind.i64 (IntKind.wrap IntKind.i64 (i + 1))))],
                      heap :=
                        [(0, Blk.lst false 23 [K.int IntKind.i64, K.int IntKind.i64, K.int IntKind.i64] l),
                          (1,
                            Blk.cells 71
                              [V.s
                                  (S.int IntKind.i64
                                    (cutV
                                      (s +
                                        Prod.snd
                                          (Prod.snd
                                            (g3 l i))))),
                                V.s (S.int IntKind.i64 (IntKind.wrap IntKind.i64 (c + 1))), V.s (S.bool true)])],
                      next := 1000, size := 54 }))
                (T.ret
                  (Ex.normal,
                    {
                      tmps :=
                        [(1, V.s (S.int IntKind.i64 age)), (5, V.ptr 1 0),
                          (10, V.sub 0 3 0 (PA1.k { age := age, l := l, k := k, n := n })),
                          (11, V.s (S.int IntKind.i64 n)),
                          (12, V.s (S.int IntKind.i64 (IntKind.wrap IntKind.i64 (i + 1))))],
                      heap :=
                        [(0, Blk.lst false 23 [K.int IntKind.i64, K.int IntKind.i64, K.int IntKind.i64] l),
                          (1,
                            Blk.cells 71
                              [V.s
                                  (S.int IntKind.i64
                                    (cutV
                                      (s +
                                        Prod.snd
                                          (Prod.snd
                                            (g3 l i))))),
                                V.s (S.int IntKind.i64 (IntKind.wrap IntKind.i64 (c + 1))),
                                V.s
                                  (S.bool
                                    (cutE
                                        (s +
                                          Prod.snd
                                            (Prod.snd
                                              (g3 l i))) ==
                                      2))])],
                      next := 1000, size := 54 })))
              (T.ite none u
                (T.ret
                  (Ex.normal,
                    {
                      tmps :=
                        [(1, V.s (S.int IntKind.i64 age)), (5, V.ptr 1 0),
                          (10, V.sub 0 3 0 (PA1.k { age := age, l := l, k := k, n := n })),
                          (11, V.s (S.int IntKind.i64 n)),
                          (12, V.s (S.int IntKind.i64 (IntKind.wrap IntKind.i64 (i + 1))))],
                      heap :=
                        [(0, Blk.lst false 23 [K.int IntKind.i64, K.int IntKind.i64, K.int IntKind.i64] l),
                          (1,
                            Blk.cells 71
                              [V.s
                                  (S.int IntKind.i64
                                    (cutV
                                      (s +
                                        Prod.snd
                                          (Prod.snd
                                            (g3 l i))))),
                                V.s (S.int IntKind.i64 (IntKind.wrap IntKind.i64 (c + 1))), V.s (S.bool true)])],
                      next := 1000, size := 54 }))
                T.fail))
            (T.ite none (u == false) T.fail
              (T.ite none u
                (T.ret
                  (Ex.normal,
                    {
                      tmps :=
                        [(1, V.s (S.int IntKind.i64 age)), (5, V.ptr 1 0),
                          (10, V.sub 0 3 0 (PA1.k { age := age, l := l, k := k, n := n })),
                          (11, V.s (S.int IntKind.i64 n)),
                          (12, V.s (S.int IntKind.i64 (IntKind.wrap IntKind.i64 (i + 1))))],
                      heap :=
                        [(0, Blk.lst false 23 [K.int IntKind.i64, K.int IntKind.i64, K.int IntKind.i64] l),
                          (1,
                            Blk.cells 71
                              [V.s
                                  (S.int IntKind.i64
                                    (cutV
                                      (s +
                                        Prod.snd
                                          (Prod.snd
                                            (g3 l i))))),
                                V.s (S.int IntKind.i64 (IntKind.wrap IntKind.i64 (c + 1))), V.s (S.bool true)])],
                      next := 1000, size := 54 }))
                T.fail)))
          T.fail))
      T.fail)
    T.fail)
  (T.ret
    (Ex.exit 0,
      {
        tmps :=
          [(1, V.s (S.int IntKind.i64 age)), (5, V.ptr 1 0),
            (10, V.sub 0 3 0 (PA1.k { age := age, l := l, k := k, n := n })), (11, V.s (S.int IntKind.i64 n)),
            (12, V.s (S.int IntKind.i64 i))],
        heap :=
          [(0, Blk.lst false 23 [K.int IntKind.i64, K.int IntKind.i64, K.int IntKind.i64] l),
            (1, Blk.cells 71 [V.s (S.int IntKind.i64 s), V.s (S.int IntKind.i64 c), V.s (S.bool u)])],
        next := 1000, size := 54 }))
end Go.Proofs.Ytmijloophkkanaa.Sta
