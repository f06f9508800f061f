/- Trees as the machine prints them. -/
import Derived.Test.YtmijloophkkanaaStaY
import Derived.Test.YtmijloophkkanaaYes
namespace Go.Proofs.Ytmijloophkkanaa.Sta
open Go.Eng Go.RowKit Mil
set_option linter.unusedVariables false
set_option maxRecDepth 100000
noncomputable def rtY (m : Int) (g : List Int) (k : Nat) (l : List St3) (j : Nat) (s n b i : Int) : T (Ex × St) := T.ite none (decide (i < 12))
  (T.ite none (decide (i < (↑k : Int)))
    (T.ite none (decide (0 ≤ i) && (decide (i < (↑k : Int)) && decide (0 + Int.toNat i < List.length g)))
      (T.ite none (decide (0 + Int.toNat i < List.length g))
        (T.ite none (1000000 == 0) T.fail
          (T.ite none (decide (IntKind.wrap IntKind.u64 i < 0)) T.fail
            (T.ite none
              (bits BinOp.and IntKind.i64
                  (Int.fdiv m (2 ^ min (Int.toNat (IntKind.wrap IntKind.u64 i)) (IntKind.bits IntKind.i64))) 1 ==
                0)
              (T.ite none
                (true &&
                  (decide (j ≤ List.length l) &&
                    decide
                      (j +
                          List.length
                            [(i, 10,
                                IntKind.wrap IntKind.i64
                                  (Int.tmod
                                    (IntKind.wrap IntKind.u64
                                      (gI g i))
                                    1000000))] ≤
                        1000000)))
                (T.ret
                  (Ex.normal,
                    {
                      tmps :=
                        [(0, V.s (S.int IntKind.i64 m)), (1, V.sub 0 1 0 k),
                          (5,
                            V.sub 1000 3 0
                              (j +
                                List.length
                                  [(i, 10,
                                      IntKind.wrap IntKind.i64
                                        (Int.tmod
                                          (IntKind.wrap IntKind.u64
                                            (gI g i))
                                          1000000))])),
                          (6,
                            V.s
                              (S.int IntKind.i64
                                (IntKind.wrap IntKind.i64
                                  (s +
                                    IntKind.wrap IntKind.i64
                                      (Int.tmod
                                        (IntKind.wrap IntKind.u64
                                          (gI g i))
                                        1000000))))),
                          (7, V.s (S.int IntKind.i64 (IntKind.wrap IntKind.i64 (n + 1)))),
                          (8,
                            V.s
                              (S.int IntKind.i64
                                (IntKind.wrap IntKind.i64
                                  (b +
                                    IntKind.wrap IntKind.i64
                                      (Int.tmod
                                        (IntKind.wrap IntKind.u64
                                          (gI g i))
                                        1000000))))),
                          (9, V.s (S.int IntKind.i64 (IntKind.wrap IntKind.i64 (i + 1))))],
                      heap :=
                        [(0, Blk.lst false 2 [K.int IntKind.i64] g),
                          (1000,
                            Blk.lst true 23 [K.int IntKind.i64, K.int IntKind.i64, K.int IntKind.i64]
                              (List.take j l ++
                                [(i, 10,
                                    IntKind.wrap IntKind.i64
                                      (Int.tmod
                                        (IntKind.wrap IntKind.u64
                                          (gI g i))
                                        1000000))]))],
                      next := 1001, size := 83 }))
                T.fail)
              (T.ite none
                (true &&
                  (decide (j ≤ List.length l) &&
                    decide
                      (j +
                          List.length
                            [(i, 3,
                                IntKind.wrap IntKind.i64
                                  (Int.tmod
                                    (IntKind.wrap IntKind.u64
                                      (gI g i))
                                    1000000))] ≤
                        1000000)))
                (T.ret
                  (Ex.normal,
                    {
                      tmps :=
                        [(0, V.s (S.int IntKind.i64 m)), (1, V.sub 0 1 0 k),
                          (5,
                            V.sub 1000 3 0
                              (j +
                                List.length
                                  [(i, 3,
                                      IntKind.wrap IntKind.i64
                                        (Int.tmod
                                          (IntKind.wrap IntKind.u64
                                            (gI g i))
                                          1000000))])),
                          (6, V.s (S.int IntKind.i64 s)), (7, V.s (S.int IntKind.i64 n)),
                          (8,
                            V.s
                              (S.int IntKind.i64
                                (IntKind.wrap IntKind.i64
                                  (b +
                                    IntKind.wrap IntKind.i64
                                      (Int.tmod
                                        (IntKind.wrap IntKind.u64
                                          (gI g i))
                                        1000000))))),
                          (9, V.s (S.int IntKind.i64 (IntKind.wrap IntKind.i64 (i + 1))))],
                      heap :=
                        [(0, Blk.lst false 2 [K.int IntKind.i64] g),
                          (1000,
                            Blk.lst true 23 [K.int IntKind.i64, K.int IntKind.i64, K.int IntKind.i64]
                              (List.take j l ++
                                [(i, 3,
                                    IntKind.wrap IntKind.i64
                                      (Int.tmod
                                        (IntKind.wrap IntKind.u64
                                          (gI g i))
                                        1000000))]))],
                      next := 1001, size := 83 }))
                T.fail))))
        T.fail)
      T.fail)
    (T.ite none (decide (IntKind.wrap IntKind.u64 i < 0)) T.fail
      (T.ite none
        (bits BinOp.and IntKind.i64
            (Int.fdiv m (2 ^ min (Int.toNat (IntKind.wrap IntKind.u64 i)) (IntKind.bits IntKind.i64))) 1 ==
          0)
        (T.ite none (true && (decide (j ≤ List.length l) && decide (j + List.length [(i, 10, i)] ≤ 1000000)))
          (T.ret
            (Ex.normal,
              {
                tmps :=
                  [(0, V.s (S.int IntKind.i64 m)), (1, V.sub 0 1 0 k),
                    (5, V.sub 1000 3 0 (j + List.length [(i, 10, i)])),
                    (6, V.s (S.int IntKind.i64 (IntKind.wrap IntKind.i64 (s + i)))),
                    (7, V.s (S.int IntKind.i64 (IntKind.wrap IntKind.i64 (n + 1)))),
                    (8, V.s (S.int IntKind.i64 (IntKind.wrap IntKind.i64 (b + i)))),
                    (9, V.s (S.int IntKind.i64 (IntKind.wrap IntKind.i64 (i + 1))))],
                heap :=
                  [(0, Blk.lst false 2 [K.int IntKind.i64] g),
                    (1000,
                      Blk.lst true 23 [K.int IntKind.i64, K.int IntKind.i64, K.int IntKind.i64]
                        (List.take j l ++ [(i, 10, i)]))],
                next := 1001, size := 83 }))
          T.fail)
        (T.ite none (true && (decide (j ≤ List.length l) && decide (j + List.length [(i, 3, i)] ≤ 1000000)))
          (T.ret
            (Ex.normal,
              {
                tmps :=
                  [(0, V.s (S.int IntKind.i64 m)), (1, V.sub 0 1 0 k),
                    (5, V.sub 1000 3 0 (j + List.length [(i, 3, i)])), (6, V.s (S.int IntKind.i64 s)),
                    (7, V.s (S.int IntKind.i64 n)), (8, V.s (S.int IntKind.i64 (IntKind.wrap IntKind.i64 (b + i)))),
                    (9, V.s (S.int IntKind.i64 (IntKind.wrap IntKind.i64 (i + 1))))],
                heap :=
                  [(0, Blk.lst false 2 [K.int IntKind.i64] g),
                    (1000,
                      Blk.lst true 23 [K.int IntKind.i64, K.int IntKind.i64, K.int IntKind.i64]
                        (List.take j l ++ [(i, 3, i)]))],
                next := 1001, size := 83 }))
          T.fail))))
  (T.ret
    (Ex.exit 0,
      {
        tmps :=
          [(0, V.s (S.int IntKind.i64 m)), (1, V.sub 0 1 0 k), (5, V.sub 1000 3 0 j), (6, V.s (S.int IntKind.i64 s)),
            (7, V.s (S.int IntKind.i64 n)), (8, V.s (S.int IntKind.i64 b)), (9, V.s (S.int IntKind.i64 i))],
        heap :=
          [(0, Blk.lst false 2 [K.int IntKind.i64] g),
            (1000, Blk.lst true 23 [K.int IntKind.i64, K.int IntKind.i64, K.int IntKind.i64] l)],
        next := 1001, size := 83 }))
noncomputable def rtW (g : List Int) (k : Nat) (l : List St3) (j : Nat) (lo hi i : Int) : T (Ex × St) := T.ite none (decide (i < (↑k : Int)))
  (T.ite none (decide (0 ≤ i) && (decide (i < (↑k : Int)) && decide (0 + Int.toNat i < List.length g)))
    (T.ite none (decide (0 + Int.toNat i < List.length g))
      (T.ite none (1000000 == 0) T.fail
        (T.ite none
          (true &&
            (decide (j ≤ List.length l) &&
              decide
                (j +
                    List.length
                      [(i, 0,
                          IntKind.wrap IntKind.i64
                            (Int.tmod
                              (IntKind.wrap IntKind.u64 (gI g i))
                              1000000))] ≤
                  1000000)))
          (T.ret
            (Ex.normal,
              {
                tmps :=
                  [(0, V.sub 0 1 0 k),
                    (3,
                      V.sub 1000 3 0
                        (j +
                          List.length
                            [(i, 0,
                                IntKind.wrap IntKind.i64
                                  (Int.tmod
                                    (IntKind.wrap IntKind.u64
                                      (gI g i))
                                    1000000))])),
                    (4,
                      V.s
                        (S.int IntKind.i64
                          (if
                              IntKind.wrap IntKind.i64
                                  (Int.tmod
                                    (IntKind.wrap IntKind.u64
                                      (gI g i))
                                    1000000) <
                                lo then
                            IntKind.wrap IntKind.i64
                              (Int.tmod
                                (IntKind.wrap IntKind.u64
                                  (gI g i))
                                1000000)
                          else lo))),
                    (5,
                      V.s
                        (S.int IntKind.i64
                          (if
                              IntKind.wrap IntKind.i64
                                  (Int.tmod
                                    (IntKind.wrap IntKind.u64
                                      (gI g i))
                                    1000000) >
                                hi then
                            IntKind.wrap IntKind.i64
                              (Int.tmod
                                (IntKind.wrap IntKind.u64
                                  (gI g i))
                                1000000)
                          else hi))),
                    (6, V.s (S.int IntKind.i64 (IntKind.wrap IntKind.i64 (i + 1))))],
                heap :=
                  [(0, Blk.lst false 2 [K.int IntKind.i64] g),
                    (1000,
                      Blk.lst true 23 [K.int IntKind.i64, K.int IntKind.i64, K.int IntKind.i64]
                        (List.take j l ++
                          [(i, 0,
                              IntKind.wrap IntKind.i64
                                (Int.tmod
                                  (IntKind.wrap IntKind.u64
                                    (gI g i))
                                  1000000))]))],
                next := 1001, size := 114 }))
          T.fail))
      T.fail)
    T.fail)
  (T.ret
    (Ex.exit 0,
      {
        tmps :=
          [(0, V.sub 0 1 0 k), (3, V.sub 1000 3 0 j), (4, V.s (S.int IntKind.i64 lo)), (5, V.s (S.int IntKind.i64 hi)),
            (6, V.s (S.int IntKind.i64 i))],
        heap :=
          [(0, Blk.lst false 2 [K.int IntKind.i64] g),
            (1000, Blk.lst true 23 [K.int IntKind.i64, K.int IntKind.i64, K.int IntKind.i64] l)],
        next := 1001, size := 114 }))
noncomputable def rtX (l : List St3) (j : Nat) (lo hi a n b e c f s i : Int) : T (Ex × St) := T.ite none (decide (i < (↑j : Int)))
  (T.ite none (decide (0 ≤ i) && (decide (i < (↑j : Int)) && decide (0 + Int.toNat i < List.length l)))
    (T.ite none (decide (0 + Int.toNat i < List.length l))
      (T.ret
        (Ex.normal,
          {
            tmps :=
              [(3, V.sub 1000 3 0 j), (4, V.s (S.int IntKind.i64 lo)), (5, V.s (S.int IntKind.i64 hi)),
                (8, V.s (S.int IntKind.i64 a)), (9, V.s (S.int IntKind.i64 n)), (10, V.s (S.int IntKind.i64 b)),
                (11, V.s (S.int IntKind.i64 e)), (12, V.s (S.int IntKind.i64 c)), (13, V.s (S.int IntKind.i64 f)),
                (14,
                  V.s
                    (S.int IntKind.i64
                      (IntKind.wrap IntKind.i64
                        (s +
                          Prod.snd
                            (Prod.snd
                              (g3 l i)))))),
                (15, V.s (S.int IntKind.i64 (IntKind.wrap IntKind.i64 (i + 1))))],
            heap := [(1000, Blk.lst true 23 [K.int IntKind.i64, K.int IntKind.i64, K.int IntKind.i64] l)], next := 2000,
            size := 114 }))
      T.fail)
    T.fail)
  (T.ret
    (Ex.exit 2,
      {
        tmps :=
          [(3, V.sub 1000 3 0 j), (4, V.s (S.int IntKind.i64 lo)), (5, V.s (S.int IntKind.i64 hi)),
            (8, V.s (S.int IntKind.i64 a)), (9, V.s (S.int IntKind.i64 n)), (10, V.s (S.int IntKind.i64 b)),
            (11, V.s (S.int IntKind.i64 e)), (12, V.s (S.int IntKind.i64 c)), (13, V.s (S.int IntKind.i64 f)),
            (14, V.s (S.int IntKind.i64 s)), (15, V.s (S.int IntKind.i64 i))],
        heap := [(1000, Blk.lst true 23 [K.int IntKind.i64, K.int IntKind.i64, K.int IntKind.i64] l)], next := 2000,
        size := 114 }))
end Go.Proofs.Ytmijloophkkanaa.Sta
