/- Trees as the machine prints them. -/
import Derived.Test.YtacdadifjgppbaaBrkR
import Derived.Test.YtacdadifjgppbaaYes
namespace Go.Proofs.Ytacdadifjgppbaa.Brk
open Go.Eng Go.RowKit Go.Flt Lod
set_option linter.unusedVariables false
set_option maxRecDepth 100000
noncomputable def rtR (n m L D : Int) (x y : Nat) (i : Int) : T (Ex × St) := T.ite none (decide (i < IntKind.wrap IntKind.i64 (n + 10)))
  (T.ite none (okB L D x y)
    (T.ite none (decide (valW x < L))
      (T.ret
        (Ex.normal,
          {
            tmps :=
              [(5, V.s (S.int IntKind.i64 n)), (6, V.s (S.int IntKind.i64 m)), (7, V.ptr 0 0),
                (8, V.s (S.int IntKind.i64 (IntKind.wrap IntKind.i64 (i + 1))))],
            heap :=
              [(0,
                  Blk.cells 76
                    [V.s (S.int IntKind.i64 L), V.s (S.int IntKind.i64 D),
                      V.s (S.cx FloatKind.f64 (fW (valW x + 1)) (fW (valW y)))])],
            next := 1000, size := 112 }))
      (T.ite none (decide (valW y < D))
        (T.ret
          (Ex.normal,
            {
              tmps :=
                [(5, V.s (S.int IntKind.i64 n)), (6, V.s (S.int IntKind.i64 m)), (7, V.ptr 0 0),
                  (8, V.s (S.int IntKind.i64 (IntKind.wrap IntKind.i64 (i + 1))))],
              heap :=
                [(0,
                    Blk.cells 76
                      [V.s (S.int IntKind.i64 L), V.s (S.int IntKind.i64 D),
                        V.s (S.cx FloatKind.f64 (fW (valW x)) (fW (valW y + 1)))])],
              next := 1000, size := 112 }))
        (T.ret
          (Ex.normal,
            {
              tmps :=
                [(5, V.s (S.int IntKind.i64 n)), (6, V.s (S.int IntKind.i64 m)), (7, V.ptr 0 0),
                  (8, V.s (S.int IntKind.i64 (IntKind.wrap IntKind.i64 (i + 1))))],
              heap :=
                [(0,
                    Blk.cells 76 [V.s (S.int IntKind.i64 L), V.s (S.int IntKind.i64 D), V.s (S.cx FloatKind.f64 x y)])],
              next := 1000, size := 112 }))))
    T.fail)
  (T.ret
    (Ex.exit 0,
      {
        tmps :=
          [(5, V.s (S.int IntKind.i64 n)), (6, V.s (S.int IntKind.i64 m)), (7, V.ptr 0 0),
            (8, V.s (S.int IntKind.i64 i))],
        heap :=
          [(0, Blk.cells 76 [V.s (S.int IntKind.i64 L), V.s (S.int IntKind.i64 D), V.s (S.cx FloatKind.f64 x y)])],
        next := 1000, size := 112 }))
noncomputable def rtU (n m k L D : Int) (x y : Nat) (g i : Int) : T (Ex × St) := T.ite none (decide (i < IntKind.wrap IntKind.i64 (n - m)))
  (T.ite none (okB L D x y)
    (T.ite none (valW x == 0)
      (T.ite none (bif 7 != 0 then true else false)
        (T.ret
          (Ex.ret,
            {
              tmps :=
                [(5, V.s (S.int IntKind.i64 n)), (6, V.s (S.int IntKind.i64 m)), (7, V.ptr 0 0),
                  (9, V.s (S.int IntKind.i64 k)), (11, V.s (S.int IntKind.i64 g)), (12, V.s (S.int IntKind.i64 i))],
              heap :=
                [(0,
                    Blk.cells 76 [V.s (S.int IntKind.i64 L), V.s (S.int IntKind.i64 D), V.s (S.cx FloatKind.f64 x y)])],
              next := 2000, size := 112 }))
        (T.ret
          (Ex.normal,
            {
              tmps :=
                [(5, V.s (S.int IntKind.i64 n)), (6, V.s (S.int IntKind.i64 m)), (7, V.ptr 0 0),
                  (9, V.s (S.int IntKind.i64 k)), (11, V.s (S.int IntKind.i64 (IntKind.wrap IntKind.i64 (g + 1)))),
                  (12, V.s (S.int IntKind.i64 (IntKind.wrap IntKind.i64 (i + 1))))],
              heap :=
                [(0,
                    Blk.cells 76 [V.s (S.int IntKind.i64 L), V.s (S.int IntKind.i64 D), V.s (S.cx FloatKind.f64 x y)])],
              next := 2000, size := 112 })))
      (T.ite none (bif 0 != 0 then true else decide (0 < adm L (valW x - 1) (valW y)))
        (T.ret
          (Ex.ret,
            {
              tmps :=
                [(5, V.s (S.int IntKind.i64 n)), (6, V.s (S.int IntKind.i64 m)), (7, V.ptr 0 0),
                  (9, V.s (S.int IntKind.i64 k)), (11, V.s (S.int IntKind.i64 g)), (12, V.s (S.int IntKind.i64 i))],
              heap :=
                [(0,
                    Blk.cells 76
                      [V.s (S.int IntKind.i64 L), V.s (S.int IntKind.i64 D),
                        V.s
                          (S.cx FloatKind.f64 (fW (valW x - 1 + adm L (valW x - 1) (valW y)))
                            (fW (valW y - adm L (valW x - 1) (valW y))))])],
              next := 2000, size := 112 }))
        (T.ret
          (Ex.normal,
            {
              tmps :=
                [(5, V.s (S.int IntKind.i64 n)), (6, V.s (S.int IntKind.i64 m)), (7, V.ptr 0 0),
                  (9, V.s (S.int IntKind.i64 k)), (11, V.s (S.int IntKind.i64 (IntKind.wrap IntKind.i64 (g + 1)))),
                  (12, V.s (S.int IntKind.i64 (IntKind.wrap IntKind.i64 (i + 1))))],
              heap :=
                [(0,
                    Blk.cells 76
                      [V.s (S.int IntKind.i64 L), V.s (S.int IntKind.i64 D),
                        V.s
                          (S.cx FloatKind.f64 (fW (valW x - 1 + adm L (valW x - 1) (valW y)))
                            (fW (valW y - adm L (valW x - 1) (valW y))))])],
              next := 2000, size := 112 }))))
    T.fail)
  (T.ret
    (Ex.exit 2,
      {
        tmps :=
          [(5, V.s (S.int IntKind.i64 n)), (6, V.s (S.int IntKind.i64 m)), (7, V.ptr 0 0),
            (9, V.s (S.int IntKind.i64 k)), (11, V.s (S.int IntKind.i64 g)), (12, V.s (S.int IntKind.i64 i))],
        heap :=
          [(0, Blk.cells 76 [V.s (S.int IntKind.i64 L), V.s (S.int IntKind.i64 D), V.s (S.cx FloatKind.f64 x y)])],
        next := 2000, size := 112 }))
end Go.Proofs.Ytacdadifjgppbaa.Brk
