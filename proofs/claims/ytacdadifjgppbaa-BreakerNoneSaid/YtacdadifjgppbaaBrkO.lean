/- Trees as the machine prints them. -/
import Derived.Test.YtacdadifjgppbaaBrkN
import Derived.Test.YtacdadifjgppbaaYes
namespace Go.Proofs.Ytacdadifjgppbaa.Brk
open Go.Eng Go.RowKit Go.Flt Lod
set_option linter.unusedVariables false
set_option maxRecDepth 100000
noncomputable def rtN (d k l L D : Int) (x y : Nat) (c i : Int) : T (Ex × St) := T.ite none (decide (i < k))
  (T.ite none (okB L D x y)
    (T.ite none (decide (valW x < L))
      (T.ret
        (Ex.ret,
          {
            tmps :=
              [(7, V.s (S.int IntKind.i64 d)), (8, V.s (S.int IntKind.i64 k)), (9, V.s (S.int IntKind.i64 l)),
                (10, V.ptr 0 0), (11, V.s (S.int IntKind.i64 c)), (12, V.s (S.int IntKind.i64 i))],
            heap :=
              [(0,
                  Blk.cells 76
                    [V.s (S.int IntKind.i64 L), V.s (S.int IntKind.i64 D),
                      V.s (S.cx FloatKind.f64 (fW (valW x + 1)) (fW (valW y)))])],
            next := 1000, size := 103 }))
      (T.ite none (decide (valW y < D))
        (T.ite none (!(0 == 0) == decide (i < d))
          (T.ret
            (Ex.ret,
              {
                tmps :=
                  [(7, V.s (S.int IntKind.i64 d)), (8, V.s (S.int IntKind.i64 k)), (9, V.s (S.int IntKind.i64 l)),
                    (10, V.ptr 0 0), (11, V.s (S.int IntKind.i64 c)), (12, V.s (S.int IntKind.i64 i))],
                heap :=
                  [(0,
                      Blk.cells 76
                        [V.s (S.int IntKind.i64 L), V.s (S.int IntKind.i64 D),
                          V.s (S.cx FloatKind.f64 (fW (valW x)) (fW (valW y + 1)))])],
                next := 1000, size := 103 }))
          (T.ite none (0 == 0)
            (T.ret
              (Ex.normal,
                {
                  tmps :=
                    [(7, V.s (S.int IntKind.i64 d)), (8, V.s (S.int IntKind.i64 k)), (9, V.s (S.int IntKind.i64 l)),
                      (10, V.ptr 0 0), (11, V.s (S.int IntKind.i64 (IntKind.wrap IntKind.i64 (c + 1)))),
                      (12, V.s (S.int IntKind.i64 (IntKind.wrap IntKind.i64 (i + 1))))],
                  heap :=
                    [(0,
                        Blk.cells 76
                          [V.s (S.int IntKind.i64 L), V.s (S.int IntKind.i64 D),
                            V.s (S.cx FloatKind.f64 (fW (valW x)) (fW (valW y + 1)))])],
                  next := 1000, size := 103 }))
            (T.ret
              (Ex.normal,
                {
                  tmps :=
                    [(7, V.s (S.int IntKind.i64 d)), (8, V.s (S.int IntKind.i64 k)), (9, V.s (S.int IntKind.i64 l)),
                      (10, V.ptr 0 0), (11, V.s (S.int IntKind.i64 c)),
                      (12, V.s (S.int IntKind.i64 (IntKind.wrap IntKind.i64 (i + 1))))],
                  heap :=
                    [(0,
                        Blk.cells 76
                          [V.s (S.int IntKind.i64 L), V.s (S.int IntKind.i64 D),
                            V.s (S.cx FloatKind.f64 (fW (valW x)) (fW (valW y + 1)))])],
                  next := 1000, size := 103 }))))
        (T.ite none (!(6 == 0) == decide (i < d))
          (T.ret
            (Ex.ret,
              {
                tmps :=
                  [(7, V.s (S.int IntKind.i64 d)), (8, V.s (S.int IntKind.i64 k)), (9, V.s (S.int IntKind.i64 l)),
                    (10, V.ptr 0 0), (11, V.s (S.int IntKind.i64 c)), (12, V.s (S.int IntKind.i64 i))],
                heap :=
                  [(0,
                      Blk.cells 76
                        [V.s (S.int IntKind.i64 L), V.s (S.int IntKind.i64 D), V.s (S.cx FloatKind.f64 x y)])],
                next := 1000, size := 103 }))
          (T.ite none (6 == 0)
            (T.ret
              (Ex.normal,
                {
                  tmps :=
                    [(7, V.s (S.int IntKind.i64 d)), (8, V.s (S.int IntKind.i64 k)), (9, V.s (S.int IntKind.i64 l)),
                      (10, V.ptr 0 0), (11, V.s (S.int IntKind.i64 (IntKind.wrap IntKind.i64 (c + 1)))),
                      (12, V.s (S.int IntKind.i64 (IntKind.wrap IntKind.i64 (i + 1))))],
                  heap :=
                    [(0,
                        Blk.cells 76
                          [V.s (S.int IntKind.i64 L), V.s (S.int IntKind.i64 D), V.s (S.cx FloatKind.f64 x y)])],
                  next := 1000, size := 103 }))
            (T.ret
              (Ex.normal,
                {
                  tmps :=
                    [(7, V.s (S.int IntKind.i64 d)), (8, V.s (S.int IntKind.i64 k)), (9, V.s (S.int IntKind.i64 l)),
                      (10, V.ptr 0 0), (11, V.s (S.int IntKind.i64 c)),
                      (12, V.s (S.int IntKind.i64 (IntKind.wrap IntKind.i64 (i + 1))))],
                  heap :=
                    [(0,
                        Blk.cells 76
                          [V.s (S.int IntKind.i64 L), V.s (S.int IntKind.i64 D), V.s (S.cx FloatKind.f64 x y)])],
                  next := 1000, size := 103 }))))))
    T.fail)
  (T.ret
    (Ex.exit 0,
      {
        tmps :=
          [(7, V.s (S.int IntKind.i64 d)), (8, V.s (S.int IntKind.i64 k)), (9, V.s (S.int IntKind.i64 l)),
            (10, V.ptr 0 0), (11, V.s (S.int IntKind.i64 c)), (12, V.s (S.int IntKind.i64 i))],
        heap :=
          [(0, Blk.cells 76 [V.s (S.int IntKind.i64 L), V.s (S.int IntKind.i64 D), V.s (S.cx FloatKind.f64 x y)])],
        next := 1000, size := 103 }))
end Go.Proofs.Ytacdadifjgppbaa.Brk
