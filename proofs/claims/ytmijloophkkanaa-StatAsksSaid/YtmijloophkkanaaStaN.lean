/- Trees as the machine prints them. -/
import Derived.Test.YtmijloophkkanaaStaM
import Derived.Test.YtmijloophkkanaaYes
namespace Go.Proofs.Ytmijloophkkanaa.Sta
open Go.Eng Go.RowKit Mil
set_option linter.unusedVariables false
set_option maxRecDepth 100000
noncomputable def meT (l : List St3) (y : Int) : T V := T.ite none (decide (0 + List.length l ≤ List.length l))
  (T.ite none (okL3 (List.take (List.length l) (List.drop 0 l)))
    (T.ite none (Tot.n (heardL y (List.take (List.length l) (List.drop 0 l))) == 0)
      (T.ret (V.tup [V.s (S.int IntKind.i64 0), V.s (S.int IntKind.i64 0)]))
      (T.ite none (Tot.n (heardL y (List.take (List.length l) (List.drop 0 l))) == 0) T.fail
        (T.ret
          (V.tup
            [V.s
                (S.int IntKind.i64
                  (IntKind.wrap IntKind.i64
                    (Int.tdiv (Tot.s (heardL y (List.take (List.length l) (List.drop 0 l))))
                      (Tot.n (heardL y (List.take (List.length l) (List.drop 0 l))))))),
              V.s (S.int IntKind.i64 (Tot.n (heardL y (List.take (List.length l) (List.drop 0 l)))))]))))
    T.fail)
  T.fail
noncomputable def spT (l : List St3) (y r : Int) : T V := T.ite none (decide (0 + List.length l ≤ List.length l))
  (T.ite none (okL3 (List.take (List.length l) (List.drop 0 l)))
    (T.ite none (Tot.n (heardL y (List.take (List.length l) (List.drop 0 l))) == 0)
      (T.ret (V.tup [V.s (S.int IntKind.i64 0), V.s (S.int IntKind.i64 7)]))
      (T.ite none (decide (r < 0)) (T.ret (V.tup [V.s (S.int IntKind.i64 0), V.s (S.int IntKind.i64 1)]))
        (T.ite none
          (decide (0 ≤ Tot.s (heardL y (List.take (List.length l) (List.drop 0 l)))) &&
              decide (Tot.s (heardL y (List.take (List.length l) (List.drop 0 l))) ≤ 9223372036854775807) &&
            (decide (0 ≤ r) && decide (r ≤ 9223372036854775807)))
          (T.ite none (decide (9223372036854775807 < Tot.s (heardL y (List.take (List.length l) (List.drop 0 l))) * r))
            (T.ite none (Tot.c (heardL y (List.take (List.length l) (List.drop 0 l))) == false)
              (T.ite none (Tot.c (heardL y (List.take (List.length l) (List.drop 0 l))))
                (T.ite none (Tot.n (heardL y (List.take (List.length l) (List.drop 0 l))) == 0) T.fail
                  (T.ret
                    (V.tup
                      [V.s
                          (S.int IntKind.i64
                            (IntKind.wrap IntKind.i64
                              (Int.tdiv 9223372036854775807
                                (Tot.n (heardL y (List.take (List.length l) (List.drop 0 l))))))),
                        V.s (S.int IntKind.i64 2)])))
                (T.ite none (Tot.n (heardL y (List.take (List.length l) (List.drop 0 l))) == 0) T.fail
                  (T.ret
                    (V.tup
                      [V.s
                          (S.int IntKind.i64
                            (IntKind.wrap IntKind.i64
                              (Int.tdiv 9223372036854775807
                                (Tot.n (heardL y (List.take (List.length l) (List.drop 0 l))))))),
                        V.s (S.int IntKind.i64 2)]))))
              (T.ite none (Tot.c (heardL y (List.take (List.length l) (List.drop 0 l))))
                (T.ite none (Tot.n (heardL y (List.take (List.length l) (List.drop 0 l))) == 0) T.fail
                  (T.ret
                    (V.tup
                      [V.s
                          (S.int IntKind.i64
                            (IntKind.wrap IntKind.i64
                              (Int.tdiv 9223372036854775807
                                (Tot.n (heardL y (List.take (List.length l) (List.drop 0 l))))))),
                        V.s (S.int IntKind.i64 2)])))
                T.fail))
            (T.ite none (Tot.c (heardL y (List.take (List.length l) (List.drop 0 l))) == false)
              (T.ite none (Tot.c (heardL y (List.take (List.length l) (List.drop 0 l))))
                (T.ite none (Tot.n (heardL y (List.take (List.length l) (List.drop 0 l))) == 0) T.fail
                  (T.ret
                    (V.tup
                      [V.s
                          (S.int IntKind.i64
                            (IntKind.wrap IntKind.i64
                              (Int.tdiv (Tot.s (heardL y (List.take (List.length l) (List.drop 0 l))) * r)
                                (Tot.n (heardL y (List.take (List.length l) (List.drop 0 l))))))),
                        V.s (S.int IntKind.i64 2)])))
                (T.ite none (Tot.n (heardL y (List.take (List.length l) (List.drop 0 l))) == 0) T.fail
                  (T.ret
                    (V.tup
                      [V.s
                          (S.int IntKind.i64
                            (IntKind.wrap IntKind.i64
                              (Int.tdiv (Tot.s (heardL y (List.take (List.length l) (List.drop 0 l))) * r)
                                (Tot.n (heardL y (List.take (List.length l) (List.drop 0 l))))))),
                        V.s (S.int IntKind.i64 0)]))))
              (T.ite none (Tot.c (heardL y (List.take (List.length l) (List.drop 0 l))))
                (T.ite none (Tot.n (heardL y (List.take (List.length l) (List.drop 0 l))) == 0) T.fail
                  (T.ret
                    (V.tup
                      [V.s
                          (S.int IntKind.i64
                            (IntKind.wrap IntKind.i64
                              (Int.tdiv (Tot.s (heardL y (List.take (List.length l) (List.drop 0 l))) * r)
                                (Tot.n (heardL y (List.take (List.length l) (List.drop 0 l))))))),
                        V.s (S.int IntKind.i64 2)])))
                T.fail)))
          T.fail)))
    T.fail)
  T.fail
end Go.Proofs.Ytmijloophkkanaa.Sta
