/- Trees as the machine prints them. -/
import Derived.Test.YtacdadifjgppbaaLodD
import Derived.Test.YtacdadifjgppbaaYes
namespace Go.Proofs.Ytacdadifjgppbaa.Lod
open Go.Eng Go.RowKit Go.Flt
set_option linter.unusedVariables false
set_option maxRecDepth 100000
noncomputable def or1 (a b c : Int) : Option (List (Bool × Bool) × V) := some
  ([(decide (2 < 0), false), (decide (2 < 0), false), (decide (2 < 0), false),
      (all4 (fW (bits BinOp.and IntKind.i64 a 3))
          (fW (bits BinOp.and IntKind.i64 (Int.fdiv a (2 ^ min (Int.toNat 2) (IntKind.bits IntKind.i64))) 3))
          (fW (bits BinOp.and IntKind.i64 b 3))
          (fW (bits BinOp.and IntKind.i64 (Int.fdiv b (2 ^ min (Int.toNat 2) (IntKind.bits IntKind.i64))) 3)),
        true),
      (lessB (valW (fW (bits BinOp.and IntKind.i64 a 3)))
          (valW (fW (bits BinOp.and IntKind.i64 (Int.fdiv a (2 ^ min (Int.toNat 2) (IntKind.bits IntKind.i64))) 3)))
          (valW (fW (bits BinOp.and IntKind.i64 b 3)))
          (valW (fW (bits BinOp.and IntKind.i64 (Int.fdiv b (2 ^ min (Int.toNat 2) (IntKind.bits IntKind.i64))) 3))),
        true),
      (all4 (fW (bits BinOp.and IntKind.i64 b 3))
          (fW (bits BinOp.and IntKind.i64 (Int.fdiv b (2 ^ min (Int.toNat 2) (IntKind.bits IntKind.i64))) 3))
          (fW (bits BinOp.and IntKind.i64 a 3))
          (fW (bits BinOp.and IntKind.i64 (Int.fdiv a (2 ^ min (Int.toNat 2) (IntKind.bits IntKind.i64))) 3)),
        true),
      (lessB (valW (fW (bits BinOp.and IntKind.i64 b 3)))
          (valW (fW (bits BinOp.and IntKind.i64 (Int.fdiv b (2 ^ min (Int.toNat 2) (IntKind.bits IntKind.i64))) 3)))
          (valW (fW (bits BinOp.and IntKind.i64 a 3)))
          (valW (fW (bits BinOp.and IntKind.i64 (Int.fdiv a (2 ^ min (Int.toNat 2) (IntKind.bits IntKind.i64))) 3))),
        false),
      (all4 (fW (bits BinOp.and IntKind.i64 a 3))
          (fW (bits BinOp.and IntKind.i64 (Int.fdiv a (2 ^ min (Int.toNat 2) (IntKind.bits IntKind.i64))) 3))
          (fW (bits BinOp.and IntKind.i64 b 3))
          (fW (bits BinOp.and IntKind.i64 (Int.fdiv b (2 ^ min (Int.toNat 2) (IntKind.bits IntKind.i64))) 3)),
        true),
      (decide (valW (fW (bits BinOp.and IntKind.i64 a 3)) = valW (fW (bits BinOp.and IntKind.i64 b 3))) &&
          decide
            (valW (fW (bits BinOp.and IntKind.i64 (Int.fdiv a (2 ^ min (Int.toNat 2) (IntKind.bits IntKind.i64))) 3)) =
              valW (fW (bits BinOp.and IntKind.i64 (Int.fdiv b (2 ^ min (Int.toNat 2) (IntKind.bits IntKind.i64))) 3))),
        false),
      (all4 (fW (bits BinOp.and IntKind.i64 a 3))
          (fW (bits BinOp.and IntKind.i64 (Int.fdiv a (2 ^ min (Int.toNat 2) (IntKind.bits IntKind.i64))) 3))
          (fW (bits BinOp.and IntKind.i64 b 3))
          (fW (bits BinOp.and IntKind.i64 (Int.fdiv b (2 ^ min (Int.toNat 2) (IntKind.bits IntKind.i64))) 3)),
        true),
      (bif
            (!lessB (valW (fW (bits BinOp.and IntKind.i64 a 3)))
                    (valW
                      (fW
                        (bits BinOp.and IntKind.i64 (Int.fdiv a (2 ^ min (Int.toNat 2) (IntKind.bits IntKind.i64))) 3)))
                    (valW (fW (bits BinOp.and IntKind.i64 b 3)))
                    (valW
                      (fW
                        (bits BinOp.and IntKind.i64 (Int.fdiv b (2 ^ min (Int.toNat 2) (IntKind.bits IntKind.i64)))
                          3)))) ==
                false &&
              true then
          all4 (fW (bits BinOp.and IntKind.i64 b 3))
            (fW (bits BinOp.and IntKind.i64 (Int.fdiv b (2 ^ min (Int.toNat 2) (IntKind.bits IntKind.i64))) 3))
            (fW (bits BinOp.and IntKind.i64 c 3))
            (fW (bits BinOp.and IntKind.i64 (Int.fdiv c (2 ^ min (Int.toNat 2) (IntKind.bits IntKind.i64))) 3))
        else true,
        true),
      (bif
            (bif
                    !lessB (valW (fW (bits BinOp.and IntKind.i64 a 3)))
                        (valW
                          (fW
                            (bits BinOp.and IntKind.i64 (Int.fdiv a (2 ^ min (Int.toNat 2) (IntKind.bits IntKind.i64)))
                              3)))
                        (valW (fW (bits BinOp.and IntKind.i64 b 3)))
                        (valW
                          (fW
                            (bits BinOp.and IntKind.i64 (Int.fdiv b (2 ^ min (Int.toNat 2) (IntKind.bits IntKind.i64)))
                              3))) then
                  true
                else
                  !lessB (valW (fW (bits BinOp.and IntKind.i64 b 3)))
                      (valW
                        (fW
                          (bits BinOp.and IntKind.i64 (Int.fdiv b (2 ^ min (Int.toNat 2) (IntKind.bits IntKind.i64)))
                            3)))
                      (valW (fW (bits BinOp.and IntKind.i64 c 3)))
                      (valW
                        (fW
                          (bits BinOp.and IntKind.i64 (Int.fdiv c (2 ^ min (Int.toNat 2) (IntKind.bits IntKind.i64)))
                            3)))) ==
                false &&
              true then
          all4 (fW (bits BinOp.and IntKind.i64 a 3))
            (fW (bits BinOp.and IntKind.i64 (Int.fdiv a (2 ^ min (Int.toNat 2) (IntKind.bits IntKind.i64))) 3))
            (fW (bits BinOp.and IntKind.i64 c 3))
            (fW (bits BinOp.and IntKind.i64 (Int.fdiv c (2 ^ min (Int.toNat 2) (IntKind.bits IntKind.i64))) 3))
        else true,
        true)],
    V.s
      (S.bool
        (bif
            bif
                !lessB (valW (fW (bits BinOp.and IntKind.i64 a 3)))
                    (valW
                      (fW
                        (bits BinOp.and IntKind.i64 (Int.fdiv a (2 ^ min (Int.toNat 2) (IntKind.bits IntKind.i64))) 3)))
                    (valW (fW (bits BinOp.and IntKind.i64 b 3)))
                    (valW
                      (fW
                        (bits BinOp.and IntKind.i64 (Int.fdiv b (2 ^ min (Int.toNat 2) (IntKind.bits IntKind.i64)))
                          3))) then
              true
            else
              !lessB (valW (fW (bits BinOp.and IntKind.i64 b 3)))
                  (valW
                    (fW (bits BinOp.and IntKind.i64 (Int.fdiv b (2 ^ min (Int.toNat 2) (IntKind.bits IntKind.i64))) 3)))
                  (valW (fW (bits BinOp.and IntKind.i64 c 3)))
                  (valW
                    (fW
                      (bits BinOp.and IntKind.i64 (Int.fdiv c (2 ^ min (Int.toNat 2) (IntKind.bits IntKind.i64)))
                        3))) then
          true
        else
          lessB (valW (fW (bits BinOp.and IntKind.i64 a 3)))
            (valW (fW (bits BinOp.and IntKind.i64 (Int.fdiv a (2 ^ min (Int.toNat 2) (IntKind.bits IntKind.i64))) 3)))
            (valW (fW (bits BinOp.and IntKind.i64 c 3)))
            (valW
              (fW (bits BinOp.and IntKind.i64 (Int.fdiv c (2 ^ min (Int.toNat 2) (IntKind.bits IntKind.i64))) 3))))))
noncomputable def or2 (a b c : Int) : Option (List (Bool × Bool) × V) := some
  ([(decide (2 < 0), false), (decide (2 < 0), false), (decide (2 < 0), false),
      (all4 (fW (bits BinOp.and IntKind.i64 a 3))
          (fW (bits BinOp.and IntKind.i64 (Int.fdiv a (2 ^ min (Int.toNat 2) (IntKind.bits IntKind.i64))) 3))
          (fW (bits BinOp.and IntKind.i64 b 3))
          (fW (bits BinOp.and IntKind.i64 (Int.fdiv b (2 ^ min (Int.toNat 2) (IntKind.bits IntKind.i64))) 3)),
        true),
      (lessB (valW (fW (bits BinOp.and IntKind.i64 a 3)))
          (valW (fW (bits BinOp.and IntKind.i64 (Int.fdiv a (2 ^ min (Int.toNat 2) (IntKind.bits IntKind.i64))) 3)))
          (valW (fW (bits BinOp.and IntKind.i64 b 3)))
          (valW (fW (bits BinOp.and IntKind.i64 (Int.fdiv b (2 ^ min (Int.toNat 2) (IntKind.bits IntKind.i64))) 3))),
        false),
      (all4 (fW (bits BinOp.and IntKind.i64 b 3))
          (fW (bits BinOp.and IntKind.i64 (Int.fdiv b (2 ^ min (Int.toNat 2) (IntKind.bits IntKind.i64))) 3))
          (fW (bits BinOp.and IntKind.i64 a 3))
          (fW (bits BinOp.and IntKind.i64 (Int.fdiv a (2 ^ min (Int.toNat 2) (IntKind.bits IntKind.i64))) 3)),
        true),
      (lessB (valW (fW (bits BinOp.and IntKind.i64 b 3)))
          (valW (fW (bits BinOp.and IntKind.i64 (Int.fdiv b (2 ^ min (Int.toNat 2) (IntKind.bits IntKind.i64))) 3)))
          (valW (fW (bits BinOp.and IntKind.i64 a 3)))
          (valW (fW (bits BinOp.and IntKind.i64 (Int.fdiv a (2 ^ min (Int.toNat 2) (IntKind.bits IntKind.i64))) 3))),
        true),
      (all4 (fW (bits BinOp.and IntKind.i64 a 3))
          (fW (bits BinOp.and IntKind.i64 (Int.fdiv a (2 ^ min (Int.toNat 2) (IntKind.bits IntKind.i64))) 3))
          (fW (bits BinOp.and IntKind.i64 b 3))
          (fW (bits BinOp.and IntKind.i64 (Int.fdiv b (2 ^ min (Int.toNat 2) (IntKind.bits IntKind.i64))) 3)),
        true),
      (decide (valW (fW (bits BinOp.and IntKind.i64 a 3)) = valW (fW (bits BinOp.and IntKind.i64 b 3))) &&
          decide
            (valW (fW (bits BinOp.and IntKind.i64 (Int.fdiv a (2 ^ min (Int.toNat 2) (IntKind.bits IntKind.i64))) 3)) =
              valW (fW (bits BinOp.and IntKind.i64 (Int.fdiv b (2 ^ min (Int.toNat 2) (IntKind.bits IntKind.i64))) 3))),
        false),
      (all4 (fW (bits BinOp.and IntKind.i64 a 3))
          (fW (bits BinOp.and IntKind.i64 (Int.fdiv a (2 ^ min (Int.toNat 2) (IntKind.bits IntKind.i64))) 3))
          (fW (bits BinOp.and IntKind.i64 b 3))
          (fW (bits BinOp.and IntKind.i64 (Int.fdiv b (2 ^ min (Int.toNat 2) (IntKind.bits IntKind.i64))) 3)),
        true),
      (bif
            (!lessB (valW (fW (bits BinOp.and IntKind.i64 a 3)))
                    (valW
                      (fW
                        (bits BinOp.and IntKind.i64 (Int.fdiv a (2 ^ min (Int.toNat 2) (IntKind.bits IntKind.i64))) 3)))
                    (valW (fW (bits BinOp.and IntKind.i64 b 3)))
                    (valW
                      (fW
                        (bits BinOp.and IntKind.i64 (Int.fdiv b (2 ^ min (Int.toNat 2) (IntKind.bits IntKind.i64)))
                          3)))) ==
                false &&
              true then
          all4 (fW (bits BinOp.and IntKind.i64 b 3))
            (fW (bits BinOp.and IntKind.i64 (Int.fdiv b (2 ^ min (Int.toNat 2) (IntKind.bits IntKind.i64))) 3))
            (fW (bits BinOp.and IntKind.i64 c 3))
            (fW (bits BinOp.and IntKind.i64 (Int.fdiv c (2 ^ min (Int.toNat 2) (IntKind.bits IntKind.i64))) 3))
        else true,
        true),
      (bif
            (bif
                    !lessB (valW (fW (bits BinOp.and IntKind.i64 a 3)))
                        (valW
                          (fW
                            (bits BinOp.and IntKind.i64 (Int.fdiv a (2 ^ min (Int.toNat 2) (IntKind.bits IntKind.i64)))
                              3)))
                        (valW (fW (bits BinOp.and IntKind.i64 b 3)))
                        (valW
                          (fW
                            (bits BinOp.and IntKind.i64 (Int.fdiv b (2 ^ min (Int.toNat 2) (IntKind.bits IntKind.i64)))
                              3))) then
                  true
                else
                  !lessB (valW (fW (bits BinOp.and IntKind.i64 b 3)))
                      (valW
                        (fW
                          (bits BinOp.and IntKind.i64 (Int.fdiv b (2 ^ min (Int.toNat 2) (IntKind.bits IntKind.i64)))
                            3)))
                      (valW (fW (bits BinOp.and IntKind.i64 c 3)))
                      (valW
                        (fW
                          (bits BinOp.and IntKind.i64 (Int.fdiv c (2 ^ min (Int.toNat 2) (IntKind.bits IntKind.i64)))
                            3)))) ==
                false &&
              true then
          all4 (fW (bits BinOp.and IntKind.i64 a 3))
            (fW (bits BinOp.and IntKind.i64 (Int.fdiv a (2 ^ min (Int.toNat 2) (IntKind.bits IntKind.i64))) 3))
            (fW (bits BinOp.and IntKind.i64 c 3))
            (fW (bits BinOp.and IntKind.i64 (Int.fdiv c (2 ^ min (Int.toNat 2) (IntKind.bits IntKind.i64))) 3))
        else true,
        true)],
    V.s
      (S.bool
        (bif
            bif
                !lessB (valW (fW (bits BinOp.and IntKind.i64 a 3)))
                    (valW
                      (fW
                        (bits BinOp.and IntKind.i64 (Int.fdiv a (2 ^ min (Int.toNat 2) (IntKind.bits IntKind.i64))) 3)))
                    (valW (fW (bits BinOp.and IntKind.i64 b 3)))
                    (valW
                      (fW
                        (bits BinOp.and IntKind.i64 (Int.fdiv b (2 ^ min (Int.toNat 2) (IntKind.bits IntKind.i64)))
                          3))) then
              true
            else
              !lessB (valW (fW (bits BinOp.and IntKind.i64 b 3)))
                  (valW
                    (fW (bits BinOp.and IntKind.i64 (Int.fdiv b (2 ^ min (Int.toNat 2) (IntKind.bits IntKind.i64))) 3)))
                  (valW (fW (bits BinOp.and IntKind.i64 c 3)))
                  (valW
                    (fW
                      (bits BinOp.and IntKind.i64 (Int.fdiv c (2 ^ min (Int.toNat 2) (IntKind.bits IntKind.i64)))
                        3))) then
          true
        else
          lessB (valW (fW (bits BinOp.and IntKind.i64 a 3)))
            (valW (fW (bits BinOp.and IntKind.i64 (Int.fdiv a (2 ^ min (Int.toNat 2) (IntKind.bits IntKind.i64))) 3)))
            (valW (fW (bits BinOp.and IntKind.i64 c 3)))
            (valW
              (fW (bits BinOp.and IntKind.i64 (Int.fdiv c (2 ^ min (Int.toNat 2) (IntKind.bits IntKind.i64))) 3))))))
noncomputable def or3 (a b c : Int) : Option (List (Bool × Bool) × V) := some
  ([(decide (2 < 0), false), (decide (2 < 0), false), (decide (2 < 0), false),
      (all4 (fW (bits BinOp.and IntKind.i64 a 3))
          (fW (bits BinOp.and IntKind.i64 (Int.fdiv a (2 ^ min (Int.toNat 2) (IntKind.bits IntKind.i64))) 3))
          (fW (bits BinOp.and IntKind.i64 b 3))
          (fW (bits BinOp.and IntKind.i64 (Int.fdiv b (2 ^ min (Int.toNat 2) (IntKind.bits IntKind.i64))) 3)),
        true),
      (lessB (valW (fW (bits BinOp.and IntKind.i64 a 3)))
          (valW (fW (bits BinOp.and IntKind.i64 (Int.fdiv a (2 ^ min (Int.toNat 2) (IntKind.bits IntKind.i64))) 3)))
          (valW (fW (bits BinOp.and IntKind.i64 b 3)))
          (valW (fW (bits BinOp.and IntKind.i64 (Int.fdiv b (2 ^ min (Int.toNat 2) (IntKind.bits IntKind.i64))) 3))),
        false),
      (all4 (fW (bits BinOp.and IntKind.i64 b 3))
          (fW (bits BinOp.and IntKind.i64 (Int.fdiv b (2 ^ min (Int.toNat 2) (IntKind.bits IntKind.i64))) 3))
          (fW (bits BinOp.and IntKind.i64 a 3))
          (fW (bits BinOp.and IntKind.i64 (Int.fdiv a (2 ^ min (Int.toNat 2) (IntKind.bits IntKind.i64))) 3)),
        true),
      (lessB (valW (fW (bits BinOp.and IntKind.i64 b 3)))
          (valW (fW (bits BinOp.and IntKind.i64 (Int.fdiv b (2 ^ min (Int.toNat 2) (IntKind.bits IntKind.i64))) 3)))
          (valW (fW (bits BinOp.and IntKind.i64 a 3)))
          (valW (fW (bits BinOp.and IntKind.i64 (Int.fdiv a (2 ^ min (Int.toNat 2) (IntKind.bits IntKind.i64))) 3))),
        false),
      (all4 (fW (bits BinOp.and IntKind.i64 a 3))
          (fW (bits BinOp.and IntKind.i64 (Int.fdiv a (2 ^ min (Int.toNat 2) (IntKind.bits IntKind.i64))) 3))
          (fW (bits BinOp.and IntKind.i64 b 3))
          (fW (bits BinOp.and IntKind.i64 (Int.fdiv b (2 ^ min (Int.toNat 2) (IntKind.bits IntKind.i64))) 3)),
        true),
      (decide (valW (fW (bits BinOp.and IntKind.i64 a 3)) = valW (fW (bits BinOp.and IntKind.i64 b 3))) &&
          decide
            (valW (fW (bits BinOp.and IntKind.i64 (Int.fdiv a (2 ^ min (Int.toNat 2) (IntKind.bits IntKind.i64))) 3)) =
              valW (fW (bits BinOp.and IntKind.i64 (Int.fdiv b (2 ^ min (Int.toNat 2) (IntKind.bits IntKind.i64))) 3))),
        true),
      (all4 (fW (bits BinOp.and IntKind.i64 a 3))
          (fW (bits BinOp.and IntKind.i64 (Int.fdiv a (2 ^ min (Int.toNat 2) (IntKind.bits IntKind.i64))) 3))
          (fW (bits BinOp.and IntKind.i64 b 3))
          (fW (bits BinOp.and IntKind.i64 (Int.fdiv b (2 ^ min (Int.toNat 2) (IntKind.bits IntKind.i64))) 3)),
        true),
      (bif
            (!lessB (valW (fW (bits BinOp.and IntKind.i64 a 3)))
                    (valW
                      (fW
                        (bits BinOp.and IntKind.i64 (Int.fdiv a (2 ^ min (Int.toNat 2) (IntKind.bits IntKind.i64))) 3)))
                    (valW (fW (bits BinOp.and IntKind.i64 b 3)))
                    (valW
                      (fW
                        (bits BinOp.and IntKind.i64 (Int.fdiv b (2 ^ min (Int.toNat 2) (IntKind.bits IntKind.i64)))
                          3)))) ==
                false &&
              true then
          all4 (fW (bits BinOp.and IntKind.i64 b 3))
            (fW (bits BinOp.and IntKind.i64 (Int.fdiv b (2 ^ min (Int.toNat 2) (IntKind.bits IntKind.i64))) 3))
            (fW (bits BinOp.and IntKind.i64 c 3))
            (fW (bits BinOp.and IntKind.i64 (Int.fdiv c (2 ^ min (Int.toNat 2) (IntKind.bits IntKind.i64))) 3))
        else true,
        true),
      (bif
            (bif
                    !lessB (valW (fW (bits BinOp.and IntKind.i64 a 3)))
                        (valW
                          (fW
                            (bits BinOp.and IntKind.i64 (Int.fdiv a (2 ^ min (Int.toNat 2) (IntKind.bits IntKind.i64)))
                              3)))
                        (valW (fW (bits BinOp.and IntKind.i64 b 3)))
                        (valW
                          (fW
                            (bits BinOp.and IntKind.i64 (Int.fdiv b (2 ^ min (Int.toNat 2) (IntKind.bits IntKind.i64)))
                              3))) then
                  true
                else
                  !lessB (valW (fW (bits BinOp.and IntKind.i64 b 3)))
                      (valW
                        (fW
                          (bits BinOp.and IntKind.i64 (Int.fdiv b (2 ^ min (Int.toNat 2) (IntKind.bits IntKind.i64)))
                            3)))
                      (valW (fW (bits BinOp.and IntKind.i64 c 3)))
                      (valW
                        (fW
                          (bits BinOp.and IntKind.i64 (Int.fdiv c (2 ^ min (Int.toNat 2) (IntKind.bits IntKind.i64)))
                            3)))) ==
                false &&
              true then
          all4 (fW (bits BinOp.and IntKind.i64 a 3))
            (fW (bits BinOp.and IntKind.i64 (Int.fdiv a (2 ^ min (Int.toNat 2) (IntKind.bits IntKind.i64))) 3))
            (fW (bits BinOp.and IntKind.i64 c 3))
            (fW (bits BinOp.and IntKind.i64 (Int.fdiv c (2 ^ min (Int.toNat 2) (IntKind.bits IntKind.i64))) 3))
        else true,
        true)],
    V.s
      (S.bool
        (bif
            bif
                !lessB (valW (fW (bits BinOp.and IntKind.i64 a 3)))
                    (valW
                      (fW
                        (bits BinOp.and IntKind.i64 (Int.fdiv a (2 ^ min (Int.toNat 2) (IntKind.bits IntKind.i64))) 3)))
                    (valW (fW (bits BinOp.and IntKind.i64 b 3)))
                    (valW
                      (fW
                        (bits BinOp.and IntKind.i64 (Int.fdiv b (2 ^ min (Int.toNat 2) (IntKind.bits IntKind.i64)))
                          3))) then
              true
            else
              !lessB (valW (fW (bits BinOp.and IntKind.i64 b 3)))
                  (valW
                    (fW (bits BinOp.and IntKind.i64 (Int.fdiv b (2 ^ min (Int.toNat 2) (IntKind.bits IntKind.i64))) 3)))
                  (valW (fW (bits BinOp.and IntKind.i64 c 3)))
                  (valW
                    (fW
                      (bits BinOp.and IntKind.i64 (Int.fdiv c (2 ^ min (Int.toNat 2) (IntKind.bits IntKind.i64)))
                        3))) then
          true
        else
          lessB (valW (fW (bits BinOp.and IntKind.i64 a 3)))
            (valW (fW (bits BinOp.and IntKind.i64 (Int.fdiv a (2 ^ min (Int.toNat 2) (IntKind.bits IntKind.i64))) 3)))
            (valW (fW (bits BinOp.and IntKind.i64 c 3)))
            (valW
              (fW (bits BinOp.and IntKind.i64 (Int.fdiv c (2 ^ min (Int.toNat 2) (IntKind.bits IntKind.i64))) 3))))))
end Go.Proofs.Ytacdadifjgppbaa.Lod
