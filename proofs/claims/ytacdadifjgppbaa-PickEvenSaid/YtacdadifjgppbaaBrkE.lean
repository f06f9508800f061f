/- Trees as the machine prints them. -/
import Derived.Test.YtacdadifjgppbaaBrkD
import Derived.Test.YtacdadifjgppbaaYes
namespace Go.Proofs.Ytacdadifjgppbaa.Brk
open Go.Eng Go.RowKit Go.Flt Lod
set_option linter.unusedVariables false
set_option maxRecDepth 100000
noncomputable def rtF (n d L D : Int) (x y : Nat) (i : Int) : T (Ex × St) := T.ite none (decide (i < IntKind.wrap IntKind.i64 (n + d)))
  (T.ite none (okB L D x y)
    (T.ite none (decide (valW x < L))
      (T.ite none (bif 0 != 0 then true else !true == decide (i < n))
        (T.ret
          (Ex.ret,
            {
              tmps :=
                [(5, V.s (S.int IntKind.i64 n)), (6, V.s (S.int IntKind.i64 d)), (7, V.ptr 0 0),
                  (8, V.s (S.int IntKind.i64 i))],
              heap :=
                [(0,
                    Blk.cells 76
                      [V.s (S.int IntKind.i64 L), V.s (S.int IntKind.i64 D),
                        V.s (S.cx FloatKind.f64 (fW (valW x + 1)) (fW (valW y)))])],
              next := 1000, size := 111 }))
        (T.ret
          (Ex.normal,
            {
              tmps :=
                [(5, V.s (S.int IntKind.i64 n)), (6, V.s (S.int IntKind.i64 d)), (7, V.ptr 0 0),
                  (8, V.s (S.int IntKind.i64 (IntKind.wrap IntKind.i64 (i + 1))))],
              heap :=
                [(0,
                    Blk.cells 76
                      [V.s (S.int IntKind.i64 L), V.s (S.int IntKind.i64 D),
                        V.s (S.cx FloatKind.f64 (fW (valW x + 1)) (fW (valW y)))])],
              next := 1000, size := 111 })))
      (T.ite none (decide (valW y < D))
        (T.ite none (bif 0 != 0 then true else !false == decide (i < n))
          (T.ret
            (Ex.ret,
              {
                tmps :=
                  [(5, V.s (S.int IntKind.i64 n)), (6, V.s (S.int IntKind.i64 d)), (7, V.ptr 0 0),
                    (8, V.s (S.int IntKind.i64 i))],
                heap :=
                  [(0,
                      Blk.cells 76
                        [V.s (S.int IntKind.i64 L), V.s (S.int IntKind.i64 D),
                          V.s (S.cx FloatKind.f64 (fW (valW x)) (fW (valW y + 1)))])],
                next := 1000, size := 111 }))
          (T.ret
            (Ex.normal,
              {
                tmps :=
                  [(5, V.s (S.int IntKind.i64 n)), (6, V.s (S.int IntKind.i64 d)), (7, V.ptr 0 0),
                    (8, V.s (S.int IntKind.i64 (IntKind.wrap IntKind.i64 (i + 1))))],
                heap :=
                  [(0,
                      Blk.cells 76
                        [V.s (S.int IntKind.i64 L), V.s (S.int IntKind.i64 D),
                          V.s (S.cx FloatKind.f64 (fW (valW x)) (fW (valW y + 1)))])],
                next := 1000, size := 111 })))
        (T.ite none (bif 6 != 0 then true else !false == decide (i < n))
          (T.ret
            (Ex.ret,
              {
                tmps :=
                  [(5, V.s (S.int IntKind.i64 n)), (6, V.s (S.int IntKind.i64 d)), (7, V.ptr 0 0),
                    (8, V.s (S.int IntKind.i64 i))],
                heap :=
                  [(0,
                      Blk.cells 76
                        [V.s (S.int IntKind.i64 L), V.s (S.int IntKind.i64 D), V.s (S.cx FloatKind.f64 x y)])],
                next := 1000, size := 111 }))
          (T.ret
            (Ex.normal,
              {
                tmps :=
                  [(5, V.s (S.int IntKind.i64 n)), (6, V.s (S.int IntKind.i64 d)), (7, V.ptr 0 0),
                    (8, V.s (S.int IntKind.i64 (IntKind.wrap IntKind.i64 (i + 1))))],
                heap :=
                  [(0,
                      Blk.cells 76
                        [V.s (S.int IntKind.i64 L), V.s (S.int IntKind.i64 D), V.s (S.cx FloatKind.f64 x y)])],
                next := 1000, size := 111 })))))
    T.fail)
  (T.ret
    (Ex.exit 0,
      {
        tmps :=
          [(5, V.s (S.int IntKind.i64 n)), (6, V.s (S.int IntKind.i64 d)), (7, V.ptr 0 0),
            (8, V.s (S.int IntKind.i64 i))],
        heap :=
          [(0, Blk.cells 76 [V.s (S.int IntKind.i64 L), V.s (S.int IntKind.i64 D), V.s (S.cx FloatKind.f64 x y)])],
        next := 1000, size := 111 }))
noncomputable def rtG (n d L D e : Int) (zx zy x y : Nat) (i : Int) : T (Ex × St) := T.ite none (decide (i < IntKind.wrap IntKind.i64 (n + d)))
  (T.ite none (okB L D x y)
    (T.ite none (valW x == 0)
      (T.ite none (bif 7 != 0 then true else !false == decide (i < d))
        (T.ret
          (Ex.ret,
            {
              tmps :=
                [(5, V.s (S.int IntKind.i64 n)), (6, V.s (S.int IntKind.i64 d)), (7, V.ptr 0 0),
                  (12, V.s (S.int IntKind.i64 e)), (13, V.s (S.cx FloatKind.f64 zx zy)),
                  (14, V.s (S.int IntKind.i64 i))],
              heap :=
                [(0,
                    Blk.cells 76 [V.s (S.int IntKind.i64 L), V.s (S.int IntKind.i64 D), V.s (S.cx FloatKind.f64 x y)])],
              next := 2000, size := 111 }))
        (T.ret
          (Ex.normal,
            {
              tmps :=
                [(5, V.s (S.int IntKind.i64 n)), (6, V.s (S.int IntKind.i64 d)), (7, V.ptr 0 0),
                  (12, V.s (S.int IntKind.i64 e)), (13, V.s (S.cx FloatKind.f64 zx zy)),
                  (14, V.s (S.int IntKind.i64 (IntKind.wrap IntKind.i64 (i + 1))))],
              heap :=
                [(0,
                    Blk.cells 76 [V.s (S.int IntKind.i64 L), V.s (S.int IntKind.i64 D), V.s (S.cx FloatKind.f64 x y)])],
              next := 2000, size := 111 })))
      (T.ite none (bif 0 != 0 then true else !decide (0 < adm L (valW x - 1) (valW y)) == decide (i < d))
        (T.ret
          (Ex.ret,
            {
              tmps :=
                [(5, V.s (S.int IntKind.i64 n)), (6, V.s (S.int IntKind.i64 d)), (7, V.ptr 0 0),
                  (12, V.s (S.int IntKind.i64 e)), (13, V.s (S.cx FloatKind.f64 zx zy)),
                  (14, V.s (S.int IntKind.i64 i))],
              heap :=
                [(0,
                    Blk.cells 76
                      [V.s (S.int IntKind.i64 L), V.s (S.int IntKind.i64 D),
                        V.s
                          (S.cx FloatKind.f64 (fW (valW x - 1 + adm L (valW x - 1) (valW y)))
                            (fW (valW y - adm L (valW x - 1) (valW y))))])],
              next := 2000, size := 111 }))
        (T.ret
          (Ex.normal,
            {
              tmps :=
                [(5, V.s (S.int IntKind.i64 n)), (6, V.s (S.int IntKind.i64 d)), (7, V.ptr 0 0),
                  (12, V.s (S.int IntKind.i64 e)), (13, V.s (S.cx FloatKind.f64 zx zy)),
                  (14, V.s (S.int IntKind.i64 (IntKind.wrap IntKind.i64 (i + 1))))],
              heap :=
                [(0,
                    Blk.cells 76
                      [V.s (S.int IntKind.i64 L), V.s (S.int IntKind.i64 D),
                        V.s
                          (S.cx FloatKind.f64 (fW (valW x - 1 + adm L (valW x - 1) (valW y)))
                            (fW (valW y - adm L (valW x - 1) (valW y))))])],
              next := 2000, size := 111 }))))
    T.fail)
  (T.ret
    (Ex.exit 2,
      {
        tmps :=
          [(5, V.s (S.int IntKind.i64 n)), (6, V.s (S.int IntKind.i64 d)), (7, V.ptr 0 0),
            (12, V.s (S.int IntKind.i64 e)), (13, V.s (S.cx FloatKind.f64 zx zy)), (14, V.s (S.int IntKind.i64 i))],
        heap :=
          [(0, Blk.cells 76 [V.s (S.int IntKind.i64 L), V.s (S.int IntKind.i64 D), V.s (S.cx FloatKind.f64 x y)])],
        next := 2000, size := 111 }))
end Go.Proofs.Ytacdadifjgppbaa.Brk
