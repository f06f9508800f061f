/- Trees as the machine prints them. -/
import Derived.Test.YtacdadifjgppbaaLodD
import Derived.Test.YtacdadifjgppbaaYes
namespace Go.Proofs.Ytacdadifjgppbaa.Lod
open Go.Eng Go.RowKit Go.Flt
set_option linter.unusedVariables false
set_option maxRecDepth 100000
noncomputable def mv1 (a b n : Int) : Option (List (Bool × Bool) × V) := some
  ([(1000000 == 0, false), (1000000 == 0, false), (1000000 == 0, false),
      (isW (fW (IntKind.wrap IntKind.i64 (Int.tmod (IntKind.wrap IntKind.u64 a) 1000000))) &&
          isW (fW (IntKind.wrap IntKind.i64 (Int.tmod (IntKind.wrap IntKind.u64 b) 1000000))),
        true),
      (mvB (valW (fW (IntKind.wrap IntKind.i64 (Int.tmod (IntKind.wrap IntKind.u64 a) 1000000))))
          (valW (fW (IntKind.wrap IntKind.i64 (Int.tmod (IntKind.wrap IntKind.u64 b) 1000000)))) (Int.tmod n 1000000),
        true),
      (5 != 0, true),
      (bif
            (bif
                    decide
                      (IntKind.wrap IntKind.i64 (Int.tmod (IntKind.wrap IntKind.u64 b) 1000000) <
                        Int.tmod n 1000000) then
                  true
                else
                  decide
                    (Int.tmod n 1000000 <
                      IntKind.wrap IntKind.i64
                        (0 - IntKind.wrap IntKind.i64 (Int.tmod (IntKind.wrap IntKind.u64 a) 1000000)))) ==
                true &&
              true then
          all4 (fW (valW (fW (IntKind.wrap IntKind.i64 (Int.tmod (IntKind.wrap IntKind.u64 a) 1000000)))))
            (fW (valW (fW (IntKind.wrap IntKind.i64 (Int.tmod (IntKind.wrap IntKind.u64 b) 1000000)))))
            (fW (IntKind.wrap IntKind.i64 (Int.tmod (IntKind.wrap IntKind.u64 a) 1000000)))
            (fW (IntKind.wrap IntKind.i64 (Int.tmod (IntKind.wrap IntKind.u64 b) 1000000)))
        else true,
        true)],
    V.s
      (S.bool
        (bif
            bif
                decide
                  (IntKind.wrap IntKind.i64 (Int.tmod (IntKind.wrap IntKind.u64 b) 1000000) < Int.tmod n 1000000) then
              true
            else
              decide
                (Int.tmod n 1000000 <
                  IntKind.wrap IntKind.i64
                    (0 - IntKind.wrap IntKind.i64 (Int.tmod (IntKind.wrap IntKind.u64 a) 1000000))) then
          decide
              (valW (fW (valW (fW (IntKind.wrap IntKind.i64 (Int.tmod (IntKind.wrap IntKind.u64 a) 1000000))))) =
                valW (fW (IntKind.wrap IntKind.i64 (Int.tmod (IntKind.wrap IntKind.u64 a) 1000000)))) &&
            decide
              (valW (fW (valW (fW (IntKind.wrap IntKind.i64 (Int.tmod (IntKind.wrap IntKind.u64 b) 1000000))))) =
                valW (fW (IntKind.wrap IntKind.i64 (Int.tmod (IntKind.wrap IntKind.u64 b) 1000000))))
        else false)))
noncomputable def mv2 (a b n : Int) : Option (List (Bool × Bool) × V) := some
  ([(1000000 == 0, false), (1000000 == 0, false), (1000000 == 0, false),
      (isW (fW (IntKind.wrap IntKind.i64 (Int.tmod (IntKind.wrap IntKind.u64 a) 1000000))) &&
          isW (fW (IntKind.wrap IntKind.i64 (Int.tmod (IntKind.wrap IntKind.u64 b) 1000000))),
        true),
      (mvB (valW (fW (IntKind.wrap IntKind.i64 (Int.tmod (IntKind.wrap IntKind.u64 a) 1000000))))
          (valW (fW (IntKind.wrap IntKind.i64 (Int.tmod (IntKind.wrap IntKind.u64 b) 1000000)))) (Int.tmod n 1000000),
        false),
      (0 != 0, false),
      (isW
            (fW
              (valW (fW (IntKind.wrap IntKind.i64 (Int.tmod (IntKind.wrap IntKind.u64 a) 1000000))) +
                Int.tmod n 1000000)) &&
          isW
            (fW
              (valW (fW (IntKind.wrap IntKind.i64 (Int.tmod (IntKind.wrap IntKind.u64 b) 1000000))) -
                Int.tmod n 1000000)),
        true),
      (mvB
          (valW
            (fW
              (valW (fW (IntKind.wrap IntKind.i64 (Int.tmod (IntKind.wrap IntKind.u64 a) 1000000))) +
                Int.tmod n 1000000)))
          (valW
            (fW
              (valW (fW (IntKind.wrap IntKind.i64 (Int.tmod (IntKind.wrap IntKind.u64 b) 1000000))) -
                Int.tmod n 1000000)))
          (IntKind.wrap IntKind.i64 (0 - Int.tmod n 1000000)),
        false),
      (bif (0 == 0) == true && true then
          all4
            (fW
              (valW
                  (fW
                    (valW (fW (IntKind.wrap IntKind.i64 (Int.tmod (IntKind.wrap IntKind.u64 a) 1000000))) +
                      Int.tmod n 1000000)) +
                IntKind.wrap IntKind.i64 (0 - Int.tmod n 1000000)))
            (fW
              (valW
                  (fW
                    (valW (fW (IntKind.wrap IntKind.i64 (Int.tmod (IntKind.wrap IntKind.u64 b) 1000000))) -
                      Int.tmod n 1000000)) -
                IntKind.wrap IntKind.i64 (0 - Int.tmod n 1000000)))
            (fW (IntKind.wrap IntKind.i64 (Int.tmod (IntKind.wrap IntKind.u64 a) 1000000)))
            (fW (IntKind.wrap IntKind.i64 (Int.tmod (IntKind.wrap IntKind.u64 b) 1000000)))
        else true,
        true),
      (bif
            (bif 0 == 0 then
                  decide
                      (valW
                          (fW
                            (valW
                                (fW
                                  (valW
                                      (fW (IntKind.wrap IntKind.i64 (Int.tmod (IntKind.wrap IntKind.u64 a) 1000000))) +
                                    Int.tmod n 1000000)) +
                              IntKind.wrap IntKind.i64 (0 - Int.tmod n 1000000))) =
                        valW (fW (IntKind.wrap IntKind.i64 (Int.tmod (IntKind.wrap IntKind.u64 a) 1000000)))) &&
                    decide
                      (valW
                          (fW
                            (valW
                                (fW
                                  (valW
                                      (fW (IntKind.wrap IntKind.i64 (Int.tmod (IntKind.wrap IntKind.u64 b) 1000000))) -
                                    Int.tmod n 1000000)) -
                              IntKind.wrap IntKind.i64 (0 - Int.tmod n 1000000))) =
                        valW (fW (IntKind.wrap IntKind.i64 (Int.tmod (IntKind.wrap IntKind.u64 b) 1000000))))
                else false) ==
                true &&
              true then
          isW
            (fW
              (valW (fW (IntKind.wrap IntKind.i64 (Int.tmod (IntKind.wrap IntKind.u64 a) 1000000))) +
                Int.tmod n 1000000))
        else true,
        true),
      (bif
            (bif 0 == 0 then
                  decide
                      (valW
                          (fW
                            (valW
                                (fW
                                  (valW
                                      (fW (IntKind.wrap IntKind.i64 (Int.tmod (IntKind.wrap IntKind.u64 a) 1000000))) +
                                    Int.tmod n 1000000)) +
                              IntKind.wrap IntKind.i64 (0 - Int.tmod n 1000000))) =
                        valW (fW (IntKind.wrap IntKind.i64 (Int.tmod (IntKind.wrap IntKind.u64 a) 1000000)))) &&
                    decide
                      (valW
                          (fW
                            (valW
                                (fW
                                  (valW
                                      (fW (IntKind.wrap IntKind.i64 (Int.tmod (IntKind.wrap IntKind.u64 b) 1000000))) -
                                    Int.tmod n 1000000)) -
                              IntKind.wrap IntKind.i64 (0 - Int.tmod n 1000000))) =
                        valW (fW (IntKind.wrap IntKind.i64 (Int.tmod (IntKind.wrap IntKind.u64 b) 1000000))))
                else false) ==
                true &&
              true then
          isW
            (fW
              (valW (fW (IntKind.wrap IntKind.i64 (Int.tmod (IntKind.wrap IntKind.u64 b) 1000000))) -
                Int.tmod n 1000000))
        else true,
        true),
      (bif
            (bif
                    bif 0 == 0 then
                      decide
                          (valW
                              (fW
                                (valW
                                    (fW
                                      (valW
                                          (fW
                                            (IntKind.wrap IntKind.i64
                                              (Int.tmod (IntKind.wrap IntKind.u64 a) 1000000))) +
                                        Int.tmod n 1000000)) +
                                  IntKind.wrap IntKind.i64 (0 - Int.tmod n 1000000))) =
                            valW (fW (IntKind.wrap IntKind.i64 (Int.tmod (IntKind.wrap IntKind.u64 a) 1000000)))) &&
                        decide
                          (valW
                              (fW
                                (valW
                                    (fW
                                      (valW
                                          (fW
                                            (IntKind.wrap IntKind.i64
                                              (Int.tmod (IntKind.wrap IntKind.u64 b) 1000000))) -
                                        Int.tmod n 1000000)) -
                                  IntKind.wrap IntKind.i64 (0 - Int.tmod n 1000000))) =
                            valW (fW (IntKind.wrap IntKind.i64 (Int.tmod (IntKind.wrap IntKind.u64 b) 1000000))))
                    else false then
                  IntKind.wrap IntKind.i64
                      (valW
                          (fW
                            (valW (fW (IntKind.wrap IntKind.i64 (Int.tmod (IntKind.wrap IntKind.u64 a) 1000000))) +
                              Int.tmod n 1000000)) +
                        valW
                          (fW
                            (valW (fW (IntKind.wrap IntKind.i64 (Int.tmod (IntKind.wrap IntKind.u64 b) 1000000))) -
                              Int.tmod n 1000000))) ==
                    IntKind.wrap IntKind.i64
                      (IntKind.wrap IntKind.i64 (Int.tmod (IntKind.wrap IntKind.u64 a) 1000000) +
                        IntKind.wrap IntKind.i64 (Int.tmod (IntKind.wrap IntKind.u64 b) 1000000))
                else false) ==
                true &&
              true then
          isW
            (fW
              (valW (fW (IntKind.wrap IntKind.i64 (Int.tmod (IntKind.wrap IntKind.u64 a) 1000000))) +
                Int.tmod n 1000000))
        else true,
        true),
      (bif
            (bif
                    bif
                        bif 0 == 0 then
                          decide
                              (valW
                                  (fW
                                    (valW
                                        (fW
                                          (valW
                                              (fW
                                                (IntKind.wrap IntKind.i64
                                                  (Int.tmod (IntKind.wrap IntKind.u64 a) 1000000))) +
                                            Int.tmod n 1000000)) +
                                      IntKind.wrap IntKind.i64 (0 - Int.tmod n 1000000))) =
                                valW (fW (IntKind.wrap IntKind.i64 (Int.tmod (IntKind.wrap IntKind.u64 a) 1000000)))) &&
                            decide
                              (valW
                                  (fW
                                    (valW
                                        (fW
                                          (valW
                                              (fW
                                                (IntKind.wrap IntKind.i64
                                                  (Int.tmod (IntKind.wrap IntKind.u64 b) 1000000))) -
                                            Int.tmod n 1000000)) -
                                      IntKind.wrap IntKind.i64 (0 - Int.tmod n 1000000))) =
                                valW (fW (IntKind.wrap IntKind.i64 (Int.tmod (IntKind.wrap IntKind.u64 b) 1000000))))
                        else false then
                      IntKind.wrap IntKind.i64
                          (valW
                              (fW
                                (valW (fW (IntKind.wrap IntKind.i64 (Int.tmod (IntKind.wrap IntKind.u64 a) 1000000))) +
                                  Int.tmod n 1000000)) +
                            valW
                              (fW
                                (valW (fW (IntKind.wrap IntKind.i64 (Int.tmod (IntKind.wrap IntKind.u64 b) 1000000))) -
                                  Int.tmod n 1000000))) ==
                        IntKind.wrap IntKind.i64
                          (IntKind.wrap IntKind.i64 (Int.tmod (IntKind.wrap IntKind.u64 a) 1000000) +
                            IntKind.wrap IntKind.i64 (Int.tmod (IntKind.wrap IntKind.u64 b) 1000000))
                    else false then
                  valW
                      (fW
                        (valW (fW (IntKind.wrap IntKind.i64 (Int.tmod (IntKind.wrap IntKind.u64 a) 1000000))) +
                          Int.tmod n 1000000)) ==
                    IntKind.wrap IntKind.i64
                      (IntKind.wrap IntKind.i64 (Int.tmod (IntKind.wrap IntKind.u64 a) 1000000) + Int.tmod n 1000000)
                else false) ==
                true &&
              true then
          isW (fW (IntKind.wrap IntKind.i64 (Int.tmod (IntKind.wrap IntKind.u64 a) 1000000))) &&
            isW (fW (IntKind.wrap IntKind.i64 (Int.tmod (IntKind.wrap IntKind.u64 b) 1000000)))
        else true,
        true),
      (bif
            (bif
                    bif
                        bif 0 == 0 then
                          decide
                              (valW
                                  (fW
                                    (valW
                                        (fW
                                          (valW
                                              (fW
                                                (IntKind.wrap IntKind.i64
                                                  (Int.tmod (IntKind.wrap IntKind.u64 a) 1000000))) +
                                            Int.tmod n 1000000)) +
                                      IntKind.wrap IntKind.i64 (0 - Int.tmod n 1000000))) =
                                valW (fW (IntKind.wrap IntKind.i64 (Int.tmod (IntKind.wrap IntKind.u64 a) 1000000)))) &&
                            decide
                              (valW
                                  (fW
                                    (valW
                                        (fW
                                          (valW
                                              (fW
                                                (IntKind.wrap IntKind.i64
                                                  (Int.tmod (IntKind.wrap IntKind.u64 b) 1000000))) -
                                            Int.tmod n 1000000)) -
                                      IntKind.wrap IntKind.i64 (0 - Int.tmod n 1000000))) =
                                valW (fW (IntKind.wrap IntKind.i64 (Int.tmod (IntKind.wrap IntKind.u64 b) 1000000))))
                        else false then
                      IntKind.wrap IntKind.i64
                          (valW
                              (fW
                                (valW (fW (IntKind.wrap IntKind.i64 (Int.tmod (IntKind.wrap IntKind.u64 a) 1000000))) +
                                  Int.tmod n 1000000)) +
                            valW
                              (fW
                                (valW (fW (IntKind.wrap IntKind.i64 (Int.tmod (IntKind.wrap IntKind.u64 b) 1000000))) -
                                  Int.tmod n 1000000))) ==
                        IntKind.wrap IntKind.i64
                          (IntKind.wrap IntKind.i64 (Int.tmod (IntKind.wrap IntKind.u64 a) 1000000) +
                            IntKind.wrap IntKind.i64 (Int.tmod (IntKind.wrap IntKind.u64 b) 1000000))
                    else false then
                  valW
                      (fW
                        (valW (fW (IntKind.wrap IntKind.i64 (Int.tmod (IntKind.wrap IntKind.u64 a) 1000000))) +
                          Int.tmod n 1000000)) ==
                    IntKind.wrap IntKind.i64
                      (IntKind.wrap IntKind.i64 (Int.tmod (IntKind.wrap IntKind.u64 a) 1000000) + Int.tmod n 1000000)
                else false) ==
                true &&
              true then
          isW (fW (valW (fW (IntKind.wrap IntKind.i64 (Int.tmod (IntKind.wrap IntKind.u64 b) 1000000))))) &&
            isW (fW (valW (fW (IntKind.wrap IntKind.i64 (Int.tmod (IntKind.wrap IntKind.u64 a) 1000000)))))
        else true,
        true),
      (bif
            (bif
                    bif
                        bif 0 == 0 then
                          decide
                              (valW
                                  (fW
                                    (valW
                                        (fW
                                          (valW
                                              (fW
                                                (IntKind.wrap IntKind.i64
                                                  (Int.tmod (IntKind.wrap IntKind.u64 a) 1000000))) +
                                            Int.tmod n 1000000)) +
                                      IntKind.wrap IntKind.i64 (0 - Int.tmod n 1000000))) =
                                valW (fW (IntKind.wrap IntKind.i64 (Int.tmod (IntKind.wrap IntKind.u64 a) 1000000)))) &&
                            decide
                              (valW
                                  (fW
                                    (valW
                                        (fW
                                          (valW
                                              (fW
                                                (IntKind.wrap IntKind.i64
                                                  (Int.tmod (IntKind.wrap IntKind.u64 b) 1000000))) -
                                            Int.tmod n 1000000)) -
                                      IntKind.wrap IntKind.i64 (0 - Int.tmod n 1000000))) =
                                valW (fW (IntKind.wrap IntKind.i64 (Int.tmod (IntKind.wrap IntKind.u64 b) 1000000))))
                        else false then
                      IntKind.wrap IntKind.i64
                          (valW
                              (fW
                                (valW (fW (IntKind.wrap IntKind.i64 (Int.tmod (IntKind.wrap IntKind.u64 a) 1000000))) +
                                  Int.tmod n 1000000)) +
                            valW
                              (fW
                                (valW (fW (IntKind.wrap IntKind.i64 (Int.tmod (IntKind.wrap IntKind.u64 b) 1000000))) -
                                  Int.tmod n 1000000))) ==
                        IntKind.wrap IntKind.i64
                          (IntKind.wrap IntKind.i64 (Int.tmod (IntKind.wrap IntKind.u64 a) 1000000) +
                            IntKind.wrap IntKind.i64 (Int.tmod (IntKind.wrap IntKind.u64 b) 1000000))
                    else false then
                  valW
                      (fW
                        (valW (fW (IntKind.wrap IntKind.i64 (Int.tmod (IntKind.wrap IntKind.u64 a) 1000000))) +
                          Int.tmod n 1000000)) ==
                    IntKind.wrap IntKind.i64
                      (IntKind.wrap IntKind.i64 (Int.tmod (IntKind.wrap IntKind.u64 a) 1000000) + Int.tmod n 1000000)
                else false) ==
                true &&
              true then
          all4 (fW (valW (fW (valW (fW (IntKind.wrap IntKind.i64 (Int.tmod (IntKind.wrap IntKind.u64 a) 1000000)))))))
            (fW (valW (fW (valW (fW (IntKind.wrap IntKind.i64 (Int.tmod (IntKind.wrap IntKind.u64 b) 1000000)))))))
            (fW (IntKind.wrap IntKind.i64 (Int.tmod (IntKind.wrap IntKind.u64 a) 1000000)))
            (fW (IntKind.wrap IntKind.i64 (Int.tmod (IntKind.wrap IntKind.u64 b) 1000000)))
        else true,
        true)],
    V.s
      (S.bool
        (bif
            bif
                bif
                    bif 0 == 0 then
                      decide
                          (valW
                              (fW
                                (valW
                                    (fW
                                      (valW
                                          (fW
                                            (IntKind.wrap IntKind.i64
                                              (Int.tmod (IntKind.wrap IntKind.u64 a) 1000000))) +
                                        Int.tmod n 1000000)) +
                                  IntKind.wrap IntKind.i64 (0 - Int.tmod n 1000000))) =
                            valW (fW (IntKind.wrap IntKind.i64 (Int.tmod (IntKind.wrap IntKind.u64 a) 1000000)))) &&
                        decide
                          (valW
                              (fW
                                (valW
                                    (fW
                                      (valW
                                          (fW
                                            (IntKind.wrap IntKind.i64
                                              (Int.tmod (IntKind.wrap IntKind.u64 b) 1000000))) -
                                        Int.tmod n 1000000)) -
                                  IntKind.wrap IntKind.i64 (0 - Int.tmod n 1000000))) =
                            valW (fW (IntKind.wrap IntKind.i64 (Int.tmod (IntKind.wrap IntKind.u64 b) 1000000))))
                    else false then
                  IntKind.wrap IntKind.i64
                      (valW
                          (fW
                            (valW (fW (IntKind.wrap IntKind.i64 (Int.tmod (IntKind.wrap IntKind.u64 a) 1000000))) +
                              Int.tmod n 1000000)) +
                        valW
                          (fW
                            (valW (fW (IntKind.wrap IntKind.i64 (Int.tmod (IntKind.wrap IntKind.u64 b) 1000000))) -
                              Int.tmod n 1000000))) ==
                    IntKind.wrap IntKind.i64
                      (IntKind.wrap IntKind.i64 (Int.tmod (IntKind.wrap IntKind.u64 a) 1000000) +
                        IntKind.wrap IntKind.i64 (Int.tmod (IntKind.wrap IntKind.u64 b) 1000000))
                else false then
              valW
                  (fW
                    (valW (fW (IntKind.wrap IntKind.i64 (Int.tmod (IntKind.wrap IntKind.u64 a) 1000000))) +
                      Int.tmod n 1000000)) ==
                IntKind.wrap IntKind.i64
                  (IntKind.wrap IntKind.i64 (Int.tmod (IntKind.wrap IntKind.u64 a) 1000000) + Int.tmod n 1000000)
            else false then
          decide
              (valW
                  (fW
                    (valW
                      (fW (valW (fW (IntKind.wrap IntKind.i64 (Int.tmod (IntKind.wrap IntKind.u64 a) 1000000))))))) =
                valW (fW (IntKind.wrap IntKind.i64 (Int.tmod (IntKind.wrap IntKind.u64 a) 1000000)))) &&
            decide
              (valW
                  (fW
                    (valW
                      (fW (valW (fW (IntKind.wrap IntKind.i64 (Int.tmod (IntKind.wrap IntKind.u64 b) 1000000))))))) =
                valW (fW (IntKind.wrap IntKind.i64 (Int.tmod (IntKind.wrap IntKind.u64 b) 1000000))))
        else false)))
end Go.Proofs.Ytacdadifjgppbaa.Lod
