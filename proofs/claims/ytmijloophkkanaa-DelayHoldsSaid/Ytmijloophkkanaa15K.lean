/- Trees as the machine prints them. -/
import Derived.Test.Ytmijloophkkanaa15J
import Derived.Test.YtmijloophkkanaaYes
namespace Go.Proofs.Ytmijloophkkanaa.Del
open Go.Eng Go.RowKit
set_option linter.unusedVariables false
set_option maxRecDepth 100000
noncomputable def rtS (g : List Int) (k : Nat) (x y s : Int) (a : Int) (l : List Stp) (j : Nat) (n i : Int) : T (Ex × St) := T.ite none (bif decide (i < (↑k : Int)) then decide (i < 100) else false)
  (T.ite none (decide (0 ≤ i) && (decide (i < (↑k : Int)) && decide (0 + Int.toNat i < List.length g)))
    (T.ite none (decide (0 + Int.toNat i < List.length g))
      (T.ite none (1000 == 0) T.fail
        (T.ite none
          (refB a i
            (IntKind.wrap IntKind.i64
              (Int.tmod (IntKind.wrap IntKind.u64 (gI g i))
                1000)))
          (T.ite none (1 != 0)
            (T.ret
              (Ex.ret,
                {
                  tmps :=
                    [(0, V.sub 0 1 0 k), (7, V.s (S.int IntKind.i64 x)), (8, V.s (S.int IntKind.i64 y)), (9, V.ptr 9 0),
                      (10, V.s (S.int IntKind.i64 n)), (11, V.s (S.int IntKind.i64 i))],
                  heap :=
                    [(0, Blk.lst false 3 [K.int IntKind.i64] g),
                      (9, Blk.cells 96 [V.s (S.int IntKind.i64 s), V.s (S.int IntKind.i64 a), V.sub 1000 2 0 j]),
                      (1000, Blk.lst true 99 [K.int IntKind.i64, K.int IntKind.i64] l)],
                  next := 1001, size := 92 }))
            (T.ret
              (Ex.normal,
                {
                  tmps :=
                    [(0, V.sub 0 1 0 k), (7, V.s (S.int IntKind.i64 x)), (8, V.s (S.int IntKind.i64 y)), (9, V.ptr 9 0),
                      (10, V.s (S.int IntKind.i64 (IntKind.wrap IntKind.i64 (n + 1)))),
                      (11, V.s (S.int IntKind.i64 (IntKind.wrap IntKind.i64 (i + 1))))],
                  heap :=
                    [(0, Blk.lst false 3 [K.int IntKind.i64] g),
                      (9, Blk.cells 96 [V.s (S.int IntKind.i64 s), V.s (S.int IntKind.i64 a), V.sub 1000 2 0 j]),
                      (1000, Blk.lst true 99 [K.int IntKind.i64, K.int IntKind.i64] l)],
                  next := 1001, size := 92 })))
          (T.ite none
            (okP 0 j l i
              (IntKind.wrap IntKind.i64
                (Int.tmod (IntKind.wrap IntKind.u64 (gI g i))
                  1000)))
            (T.ite none (0 != 0)
              (T.ret
                (Ex.ret,
                  {
                    tmps :=
                      [(0, V.sub 0 1 0 k), (7, V.s (S.int IntKind.i64 x)), (8, V.s (S.int IntKind.i64 y)),
                        (9, V.ptr 9 0), (10, V.s (S.int IntKind.i64 n)), (11, V.s (S.int IntKind.i64 i))],
                    heap :=
                      [(0, Blk.lst false 3 [K.int IntKind.i64] g),
                        (9,
                          Blk.cells 96
                            [V.s (S.int IntKind.i64 s), V.s (S.int IntKind.i64 i),
                              V.sub 1000 2 0
                                (dropN l
                                    (IntKind.wrap IntKind.i64
                                      (Int.tmod
                                        (IntKind.wrap IntKind.u64
                                          (gI g i))
                                        1000))
                                    j +
                                  1)]),
                        (1000,
                          Blk.lst true 99 [K.int IntKind.i64, K.int IntKind.i64]
                            (List.take
                                (dropN l
                                  (IntKind.wrap IntKind.i64
                                    (Int.tmod
                                      (IntKind.wrap IntKind.u64
                                        (gI g i))
                                      1000))
                                  j)
                                l ++
                              [(i,
                                  IntKind.wrap IntKind.i64
                                    (Int.tmod
                                      (IntKind.wrap IntKind.u64
                                        (gI g i))
                                      1000))]))],
                    next := 1001, size := 92 }))
              (T.ret
                (Ex.normal,
                  {
                    tmps :=
                      [(0, V.sub 0 1 0 k), (7, V.s (S.int IntKind.i64 x)), (8, V.s (S.int IntKind.i64 y)),
                        (9, V.ptr 9 0), (10, V.s (S.int IntKind.i64 (IntKind.wrap IntKind.i64 (n + 1)))),
                        (11, V.s (S.int IntKind.i64 (IntKind.wrap IntKind.i64 (i + 1))))],
                    heap :=
                      [(0, Blk.lst false 3 [K.int IntKind.i64] g),
                        (9,
                          Blk.cells 96
                            [V.s (S.int IntKind.i64 s), V.s (S.int IntKind.i64 i),
                              V.sub 1000 2 0
                                (dropN l
                                    (IntKind.wrap IntKind.i64
                                      (Int.tmod
                                        (IntKind.wrap IntKind.u64
                                          (gI g i))
                                        1000))
                                    j +
                                  1)]),
                        (1000,
                          Blk.lst true 99 [K.int IntKind.i64, K.int IntKind.i64]
                            (List.take
                                (dropN l
                                  (IntKind.wrap IntKind.i64
                                    (Int.tmod
                                      (IntKind.wrap IntKind.u64
                                        (gI g i))
                                      1000))
                                  j)
                                l ++
                              [(i,
                                  IntKind.wrap IntKind.i64
                                    (Int.tmod
                                      (IntKind.wrap IntKind.u64
                                        (gI g i))
                                      1000))]))],
                    next := 1001, size := 92 })))
            T.fail)))
      T.fail)
    T.fail)
  (T.ret
    (Ex.exit 0,
      {
        tmps :=
          [(0, V.sub 0 1 0 k), (7, V.s (S.int IntKind.i64 x)), (8, V.s (S.int IntKind.i64 y)), (9, V.ptr 9 0),
            (10, V.s (S.int IntKind.i64 n)), (11, V.s (S.int IntKind.i64 i))],
        heap :=
          [(0, Blk.lst false 3 [K.int IntKind.i64] g),
            (9, Blk.cells 96 [V.s (S.int IntKind.i64 s), V.s (S.int IntKind.i64 a), V.sub 1000 2 0 j]),
            (1000, Blk.lst true 99 [K.int IntKind.i64, K.int IntKind.i64] l)],
        next := 1001, size := 92 }))
end Go.Proofs.Ytmijloophkkanaa.Del
