/- Trees as the machine prints them. -/
import Derived.Test.YtmijloophkkanaaStaX
import Derived.Test.YtmijloophkkanaaYes
namespace Go.Proofs.Ytmijloophkkanaa.Sta
open Go.Eng Go.RowKit Mil
set_option linter.unusedVariables false
set_option maxRecDepth 100000
noncomputable def rtR (age : Int) (l : List St3) (k : Nat) (n s c : Int) (u : Bool) (i : Int) : T (Ex × St) := T.ite none (decide (i < (↑k : Int)))
  (T.ite none (decide (0 ≤ i) && (decide (i < (↑k : Int)) && decide (0 + Int.toNat i < List.length l)))
    (T.ite none (decide (0 + Int.toNat i < List.length l))
      (T.ite none
        (bif
            mayR
                  (Prod.fst
                      (g3 l i),
                    Prod.fst
                      (Prod.snd
                        (g3 l i)),
                    Prod.snd
                      (Prod.snd
                        (g3 l i))) ==
                true &&
              true then
          decide (0 ≤ i) && (decide (i < (↑k : Int)) && decide (0 + Int.toNat i < List.length l))
        else true)
        (T.ite none
          (bif
              mayR
                    (Prod.fst
                        (g3 l i),
                      Prod.fst
                        (Prod.snd
                          (g3 l i)),
                      Prod.snd
                        (Prod.snd
                          (g3 l i))) ==
                  true &&
                true then
            decide (0 + Int.toNat i < List.length l)
          else true)
          (T.ite none
            (bif
                mayR
                  (Prod.fst
                      (g3 l i),
                    Prod.fst
                      (Prod.snd
                        (g3 l i)),
                    Prod.snd
                      (Prod.snd
                        (g3 l i))) then
              decide
                (age ≤
                  Prod.fst
                    (Prod.snd
                      (g3 l i)))
            else false)
            (T.ite none (decide (0 ≤ i) && (decide (i < (↑k : Int)) && decide (0 + Int.toNat i < List.length l)))
              (T.ite none (decide (0 + Int.toNat i < List.length l))
                (T.ite none
                  (inR s &&
                    inR
                      (Prod.snd
                        (Prod.snd
                          (g3 l i))))
                  (T.ite none (u == false)
                    (T.ite none (u == false)
                      (T.ite none u
                        (T.ret
                          (Ex.normal,
                            {
                              tmps :=
                                [(0, V.sub 0 3 0 k), (1, V.s (S.int IntKind.i64 age)),
                                  (7,
                                    V.s
                                      (S.int IntKind.i64
                                        (cutV
                                          (s +
                                            Prod.snd
                                              (Prod.snd
                                                (g3 l i)))))),
                                  (8, V.s (S.int IntKind.i64 (IntKind.wrap IntKind.i64 (c + 1)))),
                                  (9, V.s (S.bool true)),
                                  (10, V.s (S.int IntKind.i64 (IntKind.wrap IntKind.i64 (i + 1))))],
                              heap :=
                                [(0, Blk.lst false 23 [K.int IntKind.i64, K.int IntKind.i64, K.int IntKind.i64] l)],
                              next := 1000, size := 54 }))
                        (T.ret
                          (Ex.normal,
                            {
                              tmps :=
                                [(0, V.sub 0 3 0 k), (1, V.s (S.int IntKind.i64 age)),
                                  (7,
                                    V.s
                                      (S.int IntKind.i64
                                        (cutV
                                          (s +
                                            Prod.snd
                                              (Prod.snd
                                                (g3 l i)))))),
                                  (8, V.s (S.int IntKind.i64 (IntKind.wrap IntKind.i64 (c + 1)))),
                                  (9,
                                    V.s
                                      (S.bool
                                        (cutE
                                            (s +
                                              Prod.snd
                                                (Prod.snd
                                                  (g3 l i))) !=
                                          0))),
                                  (10, V.s (S.int IntKind.i64 (IntKind.wrap IntKind.i64 (i + 1))))],
                              heap :=
                                [(0, Blk.lst false 23 [K.int IntKind.i64, K.int IntKind.i64, K.int IntKind.i64] l)],
                              next := 1000, size := 54 })))
                      (T.ite none u
                        (T.ret
                          (Ex.normal,
                            {
                              tmps :=
                                [(0, V.sub 0 3 0 k), (1, V.s (S.int IntKind.i64 age)),
                                  (7,
                                    V.s
                                      (S.int IntKind.i64
                                        (cutV
                                          (s +
                                            Prod.snd
                                              (Prod.snd
                                                (g3 l i)))))),
                                  (8, V.s (S.int IntKind.i64 (IntKind.wrap IntKind.i64 (c + 1)))),
                                  (9, V.s (S.bool true)),
                                  (10, V.s (S.int IntKind.i64 (IntKind.wrap IntKind.i64 (i + 1))))],
                              heap :=
                                [(0, Blk.lst false 23 [K.int IntKind.i64, K.int IntKind.i64, K.int IntKind.i64] l)],
                              next := 1000, size := 54 }))
                        (T.ret
                          (Ex.normal,
                            {
                              tmps :=
                                [(0, V.sub 0 3 0 k), (1, V.s (S.int IntKind.i64 age)),
                                  (7,
                                    V.s
                                      (S.int IntKind.i64
                                        (cutV
                                          (s +
                                            Prod.snd
                                              (Prod.snd
                                                (g3 l i)))))),
                                  (8, V.s (S.int IntKind.i64 (IntKind.wrap IntKind.i64 (c + 1)))), (9, V.raw undef),
                                  (10, V.s (S.int IntKind.i64 (IntKind.wrap IntKind.i64 (i + 1))))],
                              heap :=
                                [(0, Blk.lst false 23 [K.int IntKind.i64, K.int IntKind.i64, K.int IntKind.i64] l)],
                              next := 1000, size := 54 }))))
                    (T.ite none (u == false) T.fail
                      (T.ite none u
                        (T.ret
                          (Ex.normal,
                            {
                              tmps :=
                                [(0, V.sub 0 3 0 k), (1, V.s (S.int IntKind.i64 age)),
                                  (7,
                                    V.s
                                      (S.int IntKind.i64
                                        (cutV
                                          (s +
                                            Prod.snd
                                              (Prod.snd
                                                (g3 l i)))))),
                                  (8, V.s (S.int IntKind.i64 (IntKind.wrap IntKind.i64 (c + 1)))),
                                  (9, V.s (S.bool true)),
                                  (10, V.s (S.int IntKind.i64 (IntKind.wrap IntKind.i64 (i + 1))))],
                              heap :=
                                [(0, Blk.lst false 23 [K.int IntKind.i64, K.int IntKind.i64, K.int IntKind.i64] l)],
                              next := 1000, size := 54 }))
                        (T.ret
                          (Ex.normal,
                            {
                              tmps :=
                                [(0, V.sub 0 3 0 k), (1, V.s (S.int IntKind.i64 age)),
                                  (7,
                                    V.s
                                      (S.int IntKind.i64
                                        (cutV
                                          (s +
                                            Prod.snd
                                              (Prod.snd
                                                (g3 l i)))))),
                                  (8, V.s (S.int IntKind.i64 (IntKind.wrap IntKind.i64 (c + 1)))), (9, V.raw undef),
                                  (10, V.s (S.int IntKind.i64 (IntKind.wrap IntKind.i64 (i + 1))))],
                              heap :=
                                [(0, Blk.lst false 23 [K.int IntKind.i64, K.int IntKind.i64, K.int IntKind.i64] l)],
                              next := 1000, size := 54 })))))
                  T.fail)
                T.fail)
              T.fail)
            (T.ret
              (Ex.normal,
                {
                  tmps :=
                    [(0, V.sub 0 3 0 k), (1, V.s (S.int IntKind.i64 age)), (7, V.s (S.int IntKind.i64 s)),
                      (8, V.s (S.int IntKind.i64 c)), (9, V.s (S.bool u)),
                      (10, V.s (S.int IntKind.i64 (IntKind.wrap IntKind.i64 (i + 1))))],
                  heap := [(0, Blk.lst false 23 [K.int IntKind.i64, K.int IntKind.i64, K.int IntKind.i64] l)],
                  next := 1000, size := 54 })))
          T.fail)
        T.fail)
      T.fail)
    T.fail)
  (T.ret
    (Ex.exit 0,
      {
        tmps :=
          [(0, V.sub 0 3 0 k), (1, V.s (S.int IntKind.i64 age)), (7, V.s (S.int IntKind.i64 s)),
            (8, V.s (S.int IntKind.i64 c)), (9, V.s (S.bool u)), (10, V.s (S.int IntKind.i64 i))],
        heap := [(0, Blk.lst false 23 [K.int IntKind.i64, K.int IntKind.i64, K.int IntKind.i64] l)], next := 1000,
        size := 54 }))
noncomputable def rtK (l : List St3) (k : Nat) (y r i : Int) : T (Ex × St) := T.ite none (decide (i < (↑k : Int)))
  (T.ite none (decide (0 ≤ i) && (decide (i < (↑k : Int)) && decide (0 + Int.toNat i < List.length l)))
    (T.ite none (decide (0 + Int.toNat i < List.length l))
      (T.ite none (decide (0 ≤ i) && (decide (i < (↑k : Int)) && decide (0 + Int.toNat i < List.length l)))
        (T.ite none (decide (0 + Int.toNat i < List.length l))
          (T.ite none
            (!mayR
                  (Prod.fst
                      (g3 l i),
                    Prod.fst
                      (Prod.snd
                        (g3 l i)),
                    Prod.snd
                      (Prod.snd
                        (g3 l i))) ==
                mayR
                  (Prod.fst
                      (g3 l i),
                    Prod.fst
                      (Prod.snd
                        (g3 l i)),
                    Prod.snd
                      (Prod.snd
                        (g3 l i))))
            (T.ret
              (Ex.ret,
                {
                  tmps :=
                    [(0, V.sub 0 3 0 k), (1, V.s (S.int IntKind.i64 y)), (2, V.s (S.int IntKind.i64 r)),
                      (7, V.s (S.int IntKind.i64 i))],
                  heap := [(0, Blk.lst false 23 [K.int IntKind.i64, K.int IntKind.i64, K.int IntKind.i64] l)],
                  next := 1000, size := 84 }))
            (T.ret
              (Ex.normal,
                {
                  tmps :=
                    [(0, V.sub 0 3 0 k), (1, V.s (S.int IntKind.i64 y)), (2, V.s (S.int IntKind.i64 r)),
                      (7, V.s (S.int IntKind.i64 (IntKind.wrap IntKind.i64 (i + 1))))],
                  heap := [(0, Blk.lst false 23 [K.int IntKind.i64, K.int IntKind.i64, K.int IntKind.i64] l)],
                  next := 1000, size := 84 })))
          T.fail)
        T.fail)
      T.fail)
    T.fail)
  (T.ret
    (Ex.exit 0,
      {
        tmps :=
          [(0, V.sub 0 3 0 k), (1, V.s (S.int IntKind.i64 y)), (2, V.s (S.int IntKind.i64 r)),
            (7, V.s (S.int IntKind.i64 i))],
        heap := [(0, Blk.lst false 23 [K.int IntKind.i64, K.int IntKind.i64, K.int IntKind.i64] l)], next := 1000,
        size := 84 }))
end Go.Proofs.Ytmijloophkkanaa.Sta
