/- Trees as the machine prints them. -/
import Derived.Test.YtdkebjdhpioehaaAbzC
import Derived.Test.YtdkebjdhpioehaaYes
namespace Go.Proofs.Ytdkebjdhpioehaa.Conf
open Go.Eng Go.RowKit Mil
set_option linter.unusedVariables false
set_option maxRecDepth 100000
def zasksT (c : Cf) (s n : Int) (p : Bool) (wa hv m w b : Int) : T V := T.ite none (bif (nextZ s n p == nextZ s n p) == true && true then inR s && inR n else true)
  (T.ite none (bif (nextZ s n p == nextZ s n p) == true && true then inR s && inR n else true)
    (T.ite none
      (bif
          (bif nextZ s n p == nextZ s n p then
                mayZ
                    c
                    s n m w b ==
                  mayZ
                    c
                    s n m w b
              else false) ==
              true &&
            true then
        inR s && inR n
      else true)
      (T.ite none
        (bif
            (bif nextZ s n p == nextZ s n p then
                  mayZ
                      c
                      s n m w b ==
                    mayZ
                      c
                      s n m w b
                else false) ==
                true &&
              true then
          inR s && inR n
        else true)
        (T.ret
          (V.s
            (S.bool
              (bif
                  bif nextZ s n p == nextZ s n p then
                    mayZ
                        c
                        s n m w b ==
                      mayZ
                        c
                        s n m w b
                  else false then
                wantZ
                    c
                    s n wa hv m w b ==
                  wantZ
                    c
                    s n wa hv m w b
              else false))))
        T.fail)
      T.fail)
    T.fail)
  T.fail
def zoneT (s n h m w b : Int) : T V := T.ite none (10 == 0) T.fail
  (T.ite none (10 == 0) T.fail
    (T.ite none (10 == 0) T.fail
      (T.ite none (10 == 0) T.fail
        (T.ite none (100 == 0) T.fail
          (T.ite none (1000 == 0) T.fail
            (T.ite none
              (inR (IntKind.wrap IntKind.i64 (Int.tmod (IntKind.wrap IntKind.u64 s) 100)) &&
                inR (IntKind.wrap IntKind.i64 (Int.tmod (IntKind.wrap IntKind.u64 n) 1000)))
              (T.ite none
                (bif IntKind.wrap IntKind.i64 (Int.tmod (IntKind.wrap IntKind.u64 h) 10) == 0 then
                  IntKind.wrap IntKind.i64 (Int.tmod (IntKind.wrap IntKind.u64 w) 10) == 0
                else false)
                (T.ret
                  (V.s
                    (S.bool
                      (wantZ
                          dflt
                          (IntKind.wrap IntKind.i64 (Int.tmod (IntKind.wrap IntKind.u64 s) 100))
                          (IntKind.wrap IntKind.i64 (Int.tmod (IntKind.wrap IntKind.u64 n) 1000)) 0
                          (IntKind.wrap IntKind.i64 (Int.tmod (IntKind.wrap IntKind.u64 h) 10))
                          (IntKind.wrap IntKind.i64 (Int.tmod (IntKind.wrap IntKind.u64 m) 10))
                          (IntKind.wrap IntKind.i64 (Int.tmod (IntKind.wrap IntKind.u64 w) 10))
                          (IntKind.wrap IntKind.i64 (Int.tmod (IntKind.wrap IntKind.u64 b) 10)) ==
                        0))))
                (T.ite none
                  (decide
                    (0 <
                      IntKind.wrap IntKind.i64
                        (IntKind.wrap IntKind.i64
                            (IntKind.wrap IntKind.i64 (Int.tmod (IntKind.wrap IntKind.u64 m) 10) +
                              IntKind.wrap IntKind.i64 (Int.tmod (IntKind.wrap IntKind.u64 w) 10)) +
                          IntKind.wrap IntKind.i64 (Int.tmod (IntKind.wrap IntKind.u64 b) 10))))
                  (T.ite none
                    (bif
                        (wantZ
                                dflt
                                (IntKind.wrap IntKind.i64 (Int.tmod (IntKind.wrap IntKind.u64 s) 100))
                                (IntKind.wrap IntKind.i64 (Int.tmod (IntKind.wrap IntKind.u64 n) 1000)) 0
                                (IntKind.wrap IntKind.i64 (Int.tmod (IntKind.wrap IntKind.u64 h) 10))
                                (IntKind.wrap IntKind.i64 (Int.tmod (IntKind.wrap IntKind.u64 m) 10))
                                (IntKind.wrap IntKind.i64 (Int.tmod (IntKind.wrap IntKind.u64 w) 10))
                                (IntKind.wrap IntKind.i64 (Int.tmod (IntKind.wrap IntKind.u64 b) 10)) ==
                              1) ==
                            true &&
                          true then
                      inR (IntKind.wrap IntKind.i64 (Int.tmod (IntKind.wrap IntKind.u64 s) 100)) && inR 5
                    else true)
                    (T.ret
                      (V.s
                        (S.bool
                          (bif
                              wantZ
                                  dflt
                                  (IntKind.wrap IntKind.i64 (Int.tmod (IntKind.wrap IntKind.u64 s) 100))
                                  (IntKind.wrap IntKind.i64 (Int.tmod (IntKind.wrap IntKind.u64 n) 1000)) 0
                                  (IntKind.wrap IntKind.i64 (Int.tmod (IntKind.wrap IntKind.u64 h) 10))
                                  (IntKind.wrap IntKind.i64 (Int.tmod (IntKind.wrap IntKind.u64 m) 10))
                                  (IntKind.wrap IntKind.i64 (Int.tmod (IntKind.wrap IntKind.u64 w) 10))
                                  (IntKind.wrap IntKind.i64 (Int.tmod (IntKind.wrap IntKind.u64 b) 10)) ==
                                1 then
                            wantZ
                                dflt
                                (IntKind.wrap IntKind.i64 (Int.tmod (IntKind.wrap IntKind.u64 s) 100)) 5 4
                                (IntKind.wrap IntKind.i64 (Int.tmod (IntKind.wrap IntKind.u64 h) 10))
                                (IntKind.wrap IntKind.i64 (Int.tmod (IntKind.wrap IntKind.u64 m) 10))
                                (IntKind.wrap IntKind.i64 (Int.tmod (IntKind.wrap IntKind.u64 w) 10))
                                (IntKind.wrap IntKind.i64 (Int.tmod (IntKind.wrap IntKind.u64 b) 10)) ==
                              4
                          else false))))
                    T.fail)
                  (T.ret
                    (V.s
                      (S.bool
                        (bif
                            decide
                              (0 ≤
                                wantZ
                                  dflt
                                  (IntKind.wrap IntKind.i64 (Int.tmod (IntKind.wrap IntKind.u64 s) 100))
                                  (IntKind.wrap IntKind.i64 (Int.tmod (IntKind.wrap IntKind.u64 n) 1000)) 0
                                  (IntKind.wrap IntKind.i64 (Int.tmod (IntKind.wrap IntKind.u64 h) 10))
                                  (IntKind.wrap IntKind.i64 (Int.tmod (IntKind.wrap IntKind.u64 m) 10))
                                  (IntKind.wrap IntKind.i64 (Int.tmod (IntKind.wrap IntKind.u64 w) 10))
                                  (IntKind.wrap IntKind.i64 (Int.tmod (IntKind.wrap IntKind.u64 b) 10))) then
                          decide
                            (wantZ
                                dflt
                                (IntKind.wrap IntKind.i64 (Int.tmod (IntKind.wrap IntKind.u64 s) 100))
                                (IntKind.wrap IntKind.i64 (Int.tmod (IntKind.wrap IntKind.u64 n) 1000)) 0
                                (IntKind.wrap IntKind.i64 (Int.tmod (IntKind.wrap IntKind.u64 h) 10))
                                (IntKind.wrap IntKind.i64 (Int.tmod (IntKind.wrap IntKind.u64 m) 10))
                                (IntKind.wrap IntKind.i64 (Int.tmod (IntKind.wrap IntKind.u64 w) 10))
                                (IntKind.wrap IntKind.i64 (Int.tmod (IntKind.wrap IntKind.u64 b) 10)) ≤
                              1)
                        else false))))))
              T.fail))))))
def broomT (c : Cf) (r q : Int) : T V := T.ite none
  (bif
      !mayB
          c then
    true
  else Cf.burst c == -1000)
  (T.ret V.tt)
  (T.ite none (1001 == 0) T.fail
    (T.ite none (1000000000 == 0) T.fail
      (T.ite none (inR (Int.tmod q 1000000000))
        (T.ite none
          (bif
              (excB
                      c
                      (IntKind.wrap IntKind.i64 (Int.tmod (IntKind.wrap IntKind.u64 r) 1001)) (Int.tmod q 1000000000) ==
                    IntKind.wrap IntKind.i64
                      (IntKind.wrap IntKind.i64
                          (IntKind.wrap IntKind.i64
                              (IntKind.wrap IntKind.i64
                                  (IntKind.wrap IntKind.i64 (Int.tmod (IntKind.wrap IntKind.u64 r) 1001) * Cf.limit c) *
                                1000) -
                            Int.tmod q 1000000000) -
                        Cf.burst c)) ==
                  true &&
                true then
            inR (Int.tmod q 1000000000)
          else true)
          (T.ite none
            (bif
                (bif
                        excB
                            c
                            (IntKind.wrap IntKind.i64 (Int.tmod (IntKind.wrap IntKind.u64 r) 1001))
                            (Int.tmod q 1000000000) ==
                          IntKind.wrap IntKind.i64
                            (IntKind.wrap IntKind.i64
                                (IntKind.wrap IntKind.i64
                                    (IntKind.wrap IntKind.i64
                                        (IntKind.wrap IntKind.i64 (Int.tmod (IntKind.wrap IntKind.u64 r) 1001) *
                                          Cf.limit c) *
                                      1000) -
                                  Int.tmod q 1000000000) -
                              Cf.burst c) then
                      excB
                          c
                          (-5) (Int.tmod q 1000000000) ==
                        IntKind.wrap IntKind.i64 (IntKind.wrap IntKind.i64 (0 - Int.tmod q 1000000000) - Cf.burst c)
                    else false) ==
                    true &&
                  true then
              inR (-9223372036854775808)
            else true)
            (T.ret
              (V.s
                (S.bool
                  (bif
                      bif
                          excB
                              c
                              (IntKind.wrap IntKind.i64 (Int.tmod (IntKind.wrap IntKind.u64 r) 1001))
                              (Int.tmod q 1000000000) ==
                            IntKind.wrap IntKind.i64
                              (IntKind.wrap IntKind.i64
                                  (IntKind.wrap IntKind.i64
                                      (IntKind.wrap IntKind.i64
                                          (IntKind.wrap IntKind.i64 (Int.tmod (IntKind.wrap IntKind.u64 r) 1001) *
                                            Cf.limit c) *
                                        1000) -
                                    Int.tmod q 1000000000) -
                                Cf.burst c) then
                        excB
                            c
                            (-5) (Int.tmod q 1000000000) ==
                          IntKind.wrap IntKind.i64 (IntKind.wrap IntKind.i64 (0 - Int.tmod q 1000000000) - Cf.burst c)
                      else false then
                    excB
                        c
                        0 (-9223372036854775808) ==
                      IntKind.wrap IntKind.i64 (9223372036854775807 - Cf.burst c)
                  else false))))
            T.fail)
          T.fail)
        T.fail)))
def basksT (c : Cf) (r q e : Int) : T V := T.ite none (inR q)
  (T.ite none (inR q)
    (T.ite none
      (bif
          (excB
                  c
                  r q ==
                excB
                  c
                  r q) ==
              true &&
            true then
        true
      else true)
      (T.ite none
        (bif
            (excB
                    c
                    r q ==
                  excB
                    c
                    r q) ==
                true &&
              true then
          true
        else true)
        (T.ret
          (V.s
            (S.bool
              (bif
                  excB
                      c
                      r q ==
                    excB
                      c
                      r q then
                proxyB
                    c
                    r e ==
                  proxyB
                    c
                    r e
              else false))))
        T.fail)
      T.fail)
    T.fail)
  T.fail
def bservT (c : Cf) (r q : Int) : T V := T.ite none
  (!mayB
      c)
  (T.ret V.tt)
  (T.ite none (1001 == 0) T.fail
    (T.ite none (1000000000 == 0) T.fail
      (T.ite none (inR (IntKind.wrap IntKind.i64 (Int.tmod (IntKind.wrap IntKind.u64 q) 1000000000)))
        (T.ite none true
          (T.ite none
            (bif Cf.burst c == -1000 then true
            else IntKind.wrap IntKind.i64 (Int.tmod (IntKind.wrap IntKind.u64 r) 1001) == 0)
            (T.ret
              (V.s
                (S.bool
                  (proxyB
                    c
                    (IntKind.wrap IntKind.i64 (Int.tmod (IntKind.wrap IntKind.u64 r) 1001))
                    (excB
                      c
                      (IntKind.wrap IntKind.i64 (Int.tmod (IntKind.wrap IntKind.u64 r) 1001))
                      (IntKind.wrap IntKind.i64 (Int.tmod (IntKind.wrap IntKind.u64 q) 1000000000)))))))
            (T.ite none (Cf.burst c == 0)
              (T.ret
                (V.s
                  (S.bool
                    !proxyB
                        c
                        (IntKind.wrap IntKind.i64 (Int.tmod (IntKind.wrap IntKind.u64 r) 1001))
                        (excB
                          c
                          (IntKind.wrap IntKind.i64 (Int.tmod (IntKind.wrap IntKind.u64 r) 1001))
                          (IntKind.wrap IntKind.i64 (Int.tmod (IntKind.wrap IntKind.u64 q) 1000000000))))))
              (T.ret
                (V.s
                  (S.bool
                    (proxyB
                        c
                        (IntKind.wrap IntKind.i64 (Int.tmod (IntKind.wrap IntKind.u64 r) 1001))
                        (excB
                          c
                          (IntKind.wrap IntKind.i64 (Int.tmod (IntKind.wrap IntKind.u64 r) 1001))
                          (IntKind.wrap IntKind.i64 (Int.tmod (IntKind.wrap IntKind.u64 q) 1000000000))) ==
                      decide
                        (IntKind.wrap IntKind.i64
                            (IntKind.wrap IntKind.i64
                                (IntKind.wrap IntKind.i64
                                    (IntKind.wrap IntKind.i64 (Int.tmod (IntKind.wrap IntKind.u64 r) 1001) *
                                      Cf.limit c) *
                                  1000) -
                              IntKind.wrap IntKind.i64 (Int.tmod (IntKind.wrap IntKind.u64 q) 1000000000)) <
                          Cf.burst c)))))))
          T.fail)
        T.fail)))
def bmoreT (c : Cf) (a b x y : Int) : T V := T.ite none
  (!mayB
      c)
  (T.ret V.tt)
  (T.ite none (1000 == 0) T.fail
    (T.ite none (1000 == 0) T.fail
      (T.ite none (1000000000 == 0) T.fail
        (T.ite none (1000000000 == 0) T.fail
          (T.ite none
            (decide
              (IntKind.wrap IntKind.i64 (Int.tmod (IntKind.wrap IntKind.u64 b) 1000) <
                IntKind.wrap IntKind.i64 (Int.tmod (IntKind.wrap IntKind.u64 a) 1000)))
            (T.ite none
              (decide
                (IntKind.wrap IntKind.i64 (Int.tmod (IntKind.wrap IntKind.u64 x) 1000000000) <
                  IntKind.wrap IntKind.i64 (Int.tmod (IntKind.wrap IntKind.u64 y) 1000000000)))
              (T.ite none (inR (IntKind.wrap IntKind.i64 (Int.tmod (IntKind.wrap IntKind.u64 y) 1000000000)))
                (T.ite none (inR (IntKind.wrap IntKind.i64 (Int.tmod (IntKind.wrap IntKind.u64 x) 1000000000)))
                  (T.ite none
                    (bif
                        decide
                              (excB
                                  c
                                  (IntKind.wrap IntKind.i64 (Int.tmod (IntKind.wrap IntKind.u64 b) 1000))
                                  (IntKind.wrap IntKind.i64 (Int.tmod (IntKind.wrap IntKind.u64 y) 1000000000)) ≤
                                excB
                                  c
                                  (IntKind.wrap IntKind.i64 (Int.tmod (IntKind.wrap IntKind.u64 a) 1000))
                                  (IntKind.wrap IntKind.i64 (Int.tmod (IntKind.wrap IntKind.u64 x) 1000000000))) ==
                            true &&
                          true then
                      true
                    else true)
                    (T.ite none
                      (bif
                          decide
                                (excB
                                    c
                                    (IntKind.wrap IntKind.i64 (Int.tmod (IntKind.wrap IntKind.u64 b) 1000))
                                    (IntKind.wrap IntKind.i64 (Int.tmod (IntKind.wrap IntKind.u64 y) 1000000000)) ≤
                                  excB
                                    c
                                    (IntKind.wrap IntKind.i64 (Int.tmod (IntKind.wrap IntKind.u64 a) 1000))
                                    (IntKind.wrap IntKind.i64 (Int.tmod (IntKind.wrap IntKind.u64 x) 1000000000))) ==
                              true &&
                            ((!proxyB
                                    c
                                    (IntKind.wrap IntKind.i64 (Int.tmod (IntKind.wrap IntKind.u64 a) 1000))
                                    (excB
                                      c
                                      (IntKind.wrap IntKind.i64 (Int.tmod (IntKind.wrap IntKind.u64 a) 1000))
                                      (IntKind.wrap IntKind.i64 (Int.tmod (IntKind.wrap IntKind.u64 x) 1000000000)))) ==
                                false &&
                              true) then
                        true
                      else true)
                      (T.ret
                        (V.s
                          (S.bool
                            (bif
                                decide
                                  (excB
                                      c
                                      (IntKind.wrap IntKind.i64 (Int.tmod (IntKind.wrap IntKind.u64 b) 1000))
                                      (IntKind.wrap IntKind.i64 (Int.tmod (IntKind.wrap IntKind.u64 y) 1000000000)) ≤
                                    excB
                                      c
                                      (IntKind.wrap IntKind.i64 (Int.tmod (IntKind.wrap IntKind.u64 a) 1000))
                                      (IntKind.wrap IntKind.i64
                                        (Int.tmod (IntKind.wrap IntKind.u64 x) 1000000000))) then
                              bif
                                  !proxyB
                                      c
                                      (IntKind.wrap IntKind.i64 (Int.tmod (IntKind.wrap IntKind.u64 a) 1000))
                                      (excB
                                        c
                                        (IntKind.wrap IntKind.i64 (Int.tmod (IntKind.wrap IntKind.u64 a) 1000))
                                        (IntKind.wrap IntKind.i64
                                          (Int.tmod (IntKind.wrap IntKind.u64 x) 1000000000))) then
                                true
                              else
                                proxyB
                                  c
                                  (IntKind.wrap IntKind.i64 (Int.tmod (IntKind.wrap IntKind.u64 b) 1000))
                                  (excB
                                    c
                                    (IntKind.wrap IntKind.i64 (Int.tmod (IntKind.wrap IntKind.u64 b) 1000))
                                    (IntKind.wrap IntKind.i64 (Int.tmod (IntKind.wrap IntKind.u64 y) 1000000000)))
                            else false))))
                      T.fail)
                    T.fail)
                  T.fail)
                T.fail)
              (T.ite none (inR (IntKind.wrap IntKind.i64 (Int.tmod (IntKind.wrap IntKind.u64 x) 1000000000)))
                (T.ite none (inR (IntKind.wrap IntKind.i64 (Int.tmod (IntKind.wrap IntKind.u64 y) 1000000000)))
                  (T.ite none
                    (bif
                        decide
                              (excB
                                  c
                                  (IntKind.wrap IntKind.i64 (Int.tmod (IntKind.wrap IntKind.u64 b) 1000))
                                  (IntKind.wrap IntKind.i64 (Int.tmod (IntKind.wrap IntKind.u64 x) 1000000000)) ≤
                                excB
                                  c
                                  (IntKind.wrap IntKind.i64 (Int.tmod (IntKind.wrap IntKind.u64 a) 1000))
                                  (IntKind.wrap IntKind.i64 (Int.tmod (IntKind.wrap IntKind.u64 y) 1000000000))) ==
                            true &&
                          true then
                      true
                    else true)
                    (T.ite none
                      (bif
                          decide
                                (excB
                                    c
                                    (IntKind.wrap IntKind.i64 (Int.tmod (IntKind.wrap IntKind.u64 b) 1000))
                                    (IntKind.wrap IntKind.i64 (Int.tmod (IntKind.wrap IntKind.u64 x) 1000000000)) ≤
                                  excB
                                    c
                                    (IntKind.wrap IntKind.i64 (Int.tmod (IntKind.wrap IntKind.u64 a) 1000))
                                    (IntKind.wrap IntKind.i64 (Int.tmod (IntKind.wrap IntKind.u64 y) 1000000000))) ==
                              true &&
                            ((!proxyB
                                    c
                                    (IntKind.wrap IntKind.i64 (Int.tmod (IntKind.wrap IntKind.u64 a) 1000))
                                    (excB
                                      c
                                      (IntKind.wrap IntKind.i64 (Int.tmod (IntKind.wrap IntKind.u64 a) 1000))
                                      (IntKind.wrap IntKind.i64 (Int.tmod (IntKind.wrap IntKind.u64 y) 1000000000)))) ==
                                false &&
                              true) then
                        true
                      else true)
                      (T.ret
                        (V.s
                          (S.bool
                            (bif
                                decide
                                  (excB
                                      c
                                      (IntKind.wrap IntKind.i64 (Int.tmod (IntKind.wrap IntKind.u64 b) 1000))
                                      (IntKind.wrap IntKind.i64 (Int.tmod (IntKind.wrap IntKind.u64 x) 1000000000)) ≤
                                    excB
                                      c
                                      (IntKind.wrap IntKind.i64 (Int.tmod (IntKind.wrap IntKind.u64 a) 1000))
                                      (IntKind.wrap IntKind.i64
                                        (Int.tmod (IntKind.wrap IntKind.u64 y) 1000000000))) then
                              bif
                                  !proxyB
                                      c
                                      (IntKind.wrap IntKind.i64 (Int.tmod (IntKind.wrap IntKind.u64 a) 1000))
                                      (excB
                                        c
                                        (IntKind.wrap IntKind.i64 (Int.tmod (IntKind.wrap IntKind.u64 a) 1000))
                                        (IntKind.wrap IntKind.i64
                                          (Int.tmod (IntKind.wrap IntKind.u64 y) 1000000000))) then
                                true
                              else
                                proxyB
                                  c
                                  (IntKind.wrap IntKind.i64 (Int.tmod (IntKind.wrap IntKind.u64 b) 1000))
                                  (excB
                                    c
                                    (IntKind.wrap IntKind.i64 (Int.tmod (IntKind.wrap IntKind.u64 b) 1000))
                                    (IntKind.wrap IntKind.i64 (Int.tmod (IntKind.wrap IntKind.u64 x) 1000000000)))
                            else false))))
                      T.fail)
                    T.fail)
                  T.fail)
                T.fail))
            (T.ite none
              (decide
                (IntKind.wrap IntKind.i64 (Int.tmod (IntKind.wrap IntKind.u64 x) 1000000000) <
                  IntKind.wrap IntKind.i64 (Int.tmod (IntKind.wrap IntKind.u64 y) 1000000000)))
              (T.ite none (inR (IntKind.wrap IntKind.i64 (Int.tmod (IntKind.wrap IntKind.u64 y) 1000000000)))
                (T.ite none (inR (IntKind.wrap IntKind.i64 (Int.tmod (IntKind.wrap IntKind.u64 x) 1000000000)))
                  (T.ite none
                    (bif
                        decide
                              (excB
                                  c
                                  (IntKind.wrap IntKind.i64 (Int.tmod (IntKind.wrap IntKind.u64 a) 1000))
                                  (IntKind.wrap IntKind.i64 (Int.tmod (IntKind.wrap IntKind.u64 y) 1000000000)) ≤
                                excB
                                  c
                                  (IntKind.wrap IntKind.i64 (Int.tmod (IntKind.wrap IntKind.u64 b) 1000))
                                  (IntKind.wrap IntKind.i64 (Int.tmod (IntKind.wrap IntKind.u64 x) 1000000000))) ==
                            true &&
                          true then
                      true
                    else true)
                    (T.ite none
                      (bif
                          decide
                                (excB
                                    c
                                    (IntKind.wrap IntKind.i64 (Int.tmod (IntKind.wrap IntKind.u64 a) 1000))
                                    (IntKind.wrap IntKind.i64 (Int.tmod (IntKind.wrap IntKind.u64 y) 1000000000)) ≤
                                  excB
                                    c
                                    (IntKind.wrap IntKind.i64 (Int.tmod (IntKind.wrap IntKind.u64 b) 1000))
                                    (IntKind.wrap IntKind.i64 (Int.tmod (IntKind.wrap IntKind.u64 x) 1000000000))) ==
                              true &&
                            ((!proxyB
                                    c
                                    (IntKind.wrap IntKind.i64 (Int.tmod (IntKind.wrap IntKind.u64 b) 1000))
                                    (excB
                                      c
                                      (IntKind.wrap IntKind.i64 (Int.tmod (IntKind.wrap IntKind.u64 b) 1000))
                                      (IntKind.wrap IntKind.i64 (Int.tmod (IntKind.wrap IntKind.u64 x) 1000000000)))) ==
                                false &&
                              true) then
                        true
                      else true)
                      (T.ret
                        (V.s
                          (S.bool
                            (bif
                                decide
                                  (excB
                                      c
                                      (IntKind.wrap IntKind.i64 (Int.tmod (IntKind.wrap IntKind.u64 a) 1000))
                                      (IntKind.wrap IntKind.i64 (Int.tmod (IntKind.wrap IntKind.u64 y) 1000000000)) ≤
                                    excB
                                      c
                                      (IntKind.wrap IntKind.i64 (Int.tmod (IntKind.wrap IntKind.u64 b) 1000))
                                      (IntKind.wrap IntKind.i64
                                        (Int.tmod (IntKind.wrap IntKind.u64 x) 1000000000))) then
                              bif
                                  !proxyB
                                      c
                                      (IntKind.wrap IntKind.i64 (Int.tmod (IntKind.wrap IntKind.u64 b) 1000))
                                      (excB
                                        c
                                        (IntKind.wrap IntKind.i64 (Int.tmod (IntKind.wrap IntKind.u64 b) 1000))
                                        (IntKind.wrap IntKind.i64
                                          (Int.tmod (IntKind.wrap IntKind.u64 x) 1000000000))) then
                                true
                              else
                                proxyB
                                  c
                                  (IntKind.wrap IntKind.i64 (Int.tmod (IntKind.wrap IntKind.u64 a) 1000))
                                  (excB
                                    c
                                    (IntKind.wrap IntKind.i64 (Int.tmod (IntKind.wrap IntKind.u64 a) 1000))
                                    (IntKind.wrap IntKind.i64 (Int.tmod (IntKind.wrap IntKind.u64 y) 1000000000)))
                            else false))))
                      T.fail)
                    T.fail)
                  T.fail)
                T.fail)
              (T.ite none (inR (IntKind.wrap IntKind.i64 (Int.tmod (IntKind.wrap IntKind.u64 x) 1000000000)))
                (T.ite none (inR (IntKind.wrap IntKind.i64 (Int.tmod (IntKind.wrap IntKind.u64 y) 1000000000)))
                  (T.ite none
                    (bif
                        decide
                              (excB
                                  c
                                  (IntKind.wrap IntKind.i64 (Int.tmod (IntKind.wrap IntKind.u64 a) 1000))
                                  (IntKind.wrap IntKind.i64 (Int.tmod (IntKind.wrap IntKind.u64 x) 1000000000)) ≤
                                excB
                                  c
                                  (IntKind.wrap IntKind.i64 (Int.tmod (IntKind.wrap IntKind.u64 b) 1000))
                                  (IntKind.wrap IntKind.i64 (Int.tmod (IntKind.wrap IntKind.u64 y) 1000000000))) ==
                            true &&
                          true then
                      true
                    else true)
                    (T.ite none
                      (bif
                          decide
                                (excB
                                    c
                                    (IntKind.wrap IntKind.i64 (Int.tmod (IntKind.wrap IntKind.u64 a) 1000))
                                    (IntKind.wrap IntKind.i64 (Int.tmod (IntKind.wrap IntKind.u64 x) 1000000000)) ≤
                                  excB
                                    c
                                    (IntKind.wrap IntKind.i64 (Int.tmod (IntKind.wrap IntKind.u64 b) 1000))
                                    (IntKind.wrap IntKind.i64 (Int.tmod (IntKind.wrap IntKind.u64 y) 1000000000))) ==
                              true &&
                            ((!proxyB
                                    c
                                    (IntKind.wrap IntKind.i64 (Int.tmod (IntKind.wrap IntKind.u64 b) 1000))
                                    (excB
                                      c
                                      (IntKind.wrap IntKind.i64 (Int.tmod (IntKind.wrap IntKind.u64 b) 1000))
                                      (IntKind.wrap IntKind.i64 (Int.tmod (IntKind.wrap IntKind.u64 y) 1000000000)))) ==
                                false &&
                              true) then
                        true
                      else true)
                      (T.ret
                        (V.s
                          (S.bool
                            (bif
                                decide
                                  (excB
                                      c
                                      (IntKind.wrap IntKind.i64 (Int.tmod (IntKind.wrap IntKind.u64 a) 1000))
                                      (IntKind.wrap IntKind.i64 (Int.tmod (IntKind.wrap IntKind.u64 x) 1000000000)) ≤
                                    excB
                                      c
                                      (IntKind.wrap IntKind.i64 (Int.tmod (IntKind.wrap IntKind.u64 b) 1000))
                                      (IntKind.wrap IntKind.i64
                                        (Int.tmod (IntKind.wrap IntKind.u64 y) 1000000000))) then
                              bif
                                  !proxyB
                                      c
                                      (IntKind.wrap IntKind.i64 (Int.tmod (IntKind.wrap IntKind.u64 b) 1000))
                                      (excB
                                        c
                                        (IntKind.wrap IntKind.i64 (Int.tmod (IntKind.wrap IntKind.u64 b) 1000))
                                        (IntKind.wrap IntKind.i64
                                          (Int.tmod (IntKind.wrap IntKind.u64 y) 1000000000))) then
                                true
                              else
                                proxyB
                                  c
                                  (IntKind.wrap IntKind.i64 (Int.tmod (IntKind.wrap IntKind.u64 a) 1000))
                                  (excB
                                    c
                                    (IntKind.wrap IntKind.i64 (Int.tmod (IntKind.wrap IntKind.u64 a) 1000))
                                    (IntKind.wrap IntKind.i64 (Int.tmod (IntKind.wrap IntKind.u64 x) 1000000000)))
                            else false))))
                      T.fail)
                    T.fail)
                  T.fail)
                T.fail)))))))
def aasksT (c : Cf) (s m n : Int) (o : Bool) (w : Int) : T V := T.ite none (inR s && inR n)
  (T.ite none (inR s && inR n)
    (T.ret
      (V.s
        (S.bool
          (bif
              bif
                  bif
                      bif
                          bif
                              Md.since
                                  (nextA
                                    c
                                    { since := s, most := m } n o) ==
                                Md.since
                                  (nextA
                                    c
                                    { since := s, most := m } n o) then
                            Md.most
                                (nextA
                                  c
                                  { since := s, most := m } n o) ==
                              Md.most
                                (nextA
                                  c
                                  { since := s, most := m } n o)
                          else false then
                        decide (0 ≤ s) == decide (0 ≤ s)
                      else false then
                    Md.since (keepA { since := s, most := m } w) == Md.since (keepA { since := s, most := m } w)
                  else false then
                Md.most (keepA { since := s, most := m } w) == Md.most (keepA { since := s, most := m } w)
              else false then
            keepW { since := s, most := m } w == keepW { since := s, most := m } w
          else false))))
    T.fail)
  T.fail
def aendsT (a b d : Int) : T V := T.ite none (595 == 0) T.fail
  (T.ite none (1000000 == 0) T.fail
    (T.ite none
      (IntKind.wrap IntKind.u64
          (IntKind.wrap IntKind.i64 (6 + IntKind.wrap IntKind.i64 (Int.tmod (IntKind.wrap IntKind.u64 a) 595))) ==
        0)
      T.fail
      (T.ite none (inR (-1) && inR (IntKind.wrap IntKind.i64 (Int.tmod (IntKind.wrap IntKind.u64 b) 1000000)))
        (T.ite none
          (inR
              (Md.since
                (nextA
                  (withStable dflt (IntKind.wrap IntKind.i64
                        (6 + IntKind.wrap IntKind.i64 (Int.tmod (IntKind.wrap IntKind.u64 a) 595))))
                  { since := -1, most := 0 } (IntKind.wrap IntKind.i64 (Int.tmod (IntKind.wrap IntKind.u64 b) 1000000))
                  true)) &&
            inR
              (IntKind.wrap IntKind.i64
                (IntKind.wrap IntKind.i64
                    (IntKind.wrap IntKind.i64 (Int.tmod (IntKind.wrap IntKind.u64 b) 1000000) +
                      IntKind.wrap IntKind.i64
                        (6 + IntKind.wrap IntKind.i64 (Int.tmod (IntKind.wrap IntKind.u64 a) 595))) -
                  1)))
          (T.ite none
            (inR
                (Md.since
                  (nextA
                    (withStable dflt (IntKind.wrap IntKind.i64
                          (6 + IntKind.wrap IntKind.i64 (Int.tmod (IntKind.wrap IntKind.u64 a) 595))))
                    { since := -1, most := 0 }
                    (IntKind.wrap IntKind.i64 (Int.tmod (IntKind.wrap IntKind.u64 b) 1000000)) true)) &&
              inR
                (IntKind.wrap IntKind.i64
                  (IntKind.wrap IntKind.i64 (Int.tmod (IntKind.wrap IntKind.u64 b) 1000000) +
                    IntKind.wrap IntKind.i64
                      (6 + IntKind.wrap IntKind.i64 (Int.tmod (IntKind.wrap IntKind.u64 a) 595)))))
            (T.ite none
              (inR
                  (Md.since
                    (nextA
                      (withStable dflt (IntKind.wrap IntKind.i64
                            (6 + IntKind.wrap IntKind.i64 (Int.tmod (IntKind.wrap IntKind.u64 a) 595))))
                      { since := -1, most := 0 }
                      (IntKind.wrap IntKind.i64 (Int.tmod (IntKind.wrap IntKind.u64 b) 1000000)) true)) &&
                inR
                  (IntKind.wrap IntKind.i64
                    (IntKind.wrap IntKind.i64 (Int.tmod (IntKind.wrap IntKind.u64 b) 1000000) +
                      IntKind.wrap IntKind.i64
                        (Int.tmod (IntKind.wrap IntKind.u64 d)
                          (IntKind.wrap IntKind.u64
                            (IntKind.wrap IntKind.i64
                              (6 + IntKind.wrap IntKind.i64 (Int.tmod (IntKind.wrap IntKind.u64 a) 595))))))))
              (T.ite none
                (inR
                    (Md.since
                      (nextA
                        (withStable dflt (IntKind.wrap IntKind.i64
                              (6 + IntKind.wrap IntKind.i64 (Int.tmod (IntKind.wrap IntKind.u64 a) 595))))
                        {
                          since :=
                            Md.since
                              (nextA
                                (withStable dflt (IntKind.wrap IntKind.i64
                                      (6 + IntKind.wrap IntKind.i64 (Int.tmod (IntKind.wrap IntKind.u64 a) 595))))
                                { since := -1, most := 0 }
                                (IntKind.wrap IntKind.i64 (Int.tmod (IntKind.wrap IntKind.u64 b) 1000000)) true),
                          most :=
                            Md.most
                              (nextA
                                (withStable dflt (IntKind.wrap IntKind.i64
                                      (6 + IntKind.wrap IntKind.i64 (Int.tmod (IntKind.wrap IntKind.u64 a) 595))))
                                { since := -1, most := 0 }
                                (IntKind.wrap IntKind.i64 (Int.tmod (IntKind.wrap IntKind.u64 b) 1000000)) true) }
                        (IntKind.wrap IntKind.i64
                          (IntKind.wrap IntKind.i64 (Int.tmod (IntKind.wrap IntKind.u64 b) 1000000) +
                            IntKind.wrap IntKind.i64
                              (Int.tmod (IntKind.wrap IntKind.u64 d)
                                (IntKind.wrap IntKind.u64
                                  (IntKind.wrap IntKind.i64
                                    (6 + IntKind.wrap IntKind.i64 (Int.tmod (IntKind.wrap IntKind.u64 a) 595)))))))
                        true)) &&
                  inR
                    (IntKind.wrap IntKind.i64
                      (IntKind.wrap IntKind.i64
                          (IntKind.wrap IntKind.i64
                              (IntKind.wrap IntKind.i64 (Int.tmod (IntKind.wrap IntKind.u64 b) 1000000) +
                                IntKind.wrap IntKind.i64
                                  (6 + IntKind.wrap IntKind.i64 (Int.tmod (IntKind.wrap IntKind.u64 a) 595))) +
                            IntKind.wrap IntKind.i64
                              (Int.tmod (IntKind.wrap IntKind.u64 d)
                                (IntKind.wrap IntKind.u64
                                  (IntKind.wrap IntKind.i64
                                    (6 + IntKind.wrap IntKind.i64 (Int.tmod (IntKind.wrap IntKind.u64 a) 595)))))) -
                        1)))
                (T.ite none
                  (inR
                      (Md.since
                        (nextA
                          (withStable dflt (IntKind.wrap IntKind.i64
                                (6 + IntKind.wrap IntKind.i64 (Int.tmod (IntKind.wrap IntKind.u64 a) 595))))
                          {
                            since :=
                              Md.since
                                (nextA
                                  (withStable dflt (IntKind.wrap IntKind.i64
                                        (6 + IntKind.wrap IntKind.i64 (Int.tmod (IntKind.wrap IntKind.u64 a) 595))))
                                  { since := -1, most := 0 }
                                  (IntKind.wrap IntKind.i64 (Int.tmod (IntKind.wrap IntKind.u64 b) 1000000)) true),
                            most :=
                              Md.most
                                (nextA
                                  (withStable dflt (IntKind.wrap IntKind.i64
                                        (6 + IntKind.wrap IntKind.i64 (Int.tmod (IntKind.wrap IntKind.u64 a) 595))))
                                  { since := -1, most := 0 }
                                  (IntKind.wrap IntKind.i64 (Int.tmod (IntKind.wrap IntKind.u64 b) 1000000)) true) }
                          (IntKind.wrap IntKind.i64
                            (IntKind.wrap IntKind.i64 (Int.tmod (IntKind.wrap IntKind.u64 b) 1000000) +
                              IntKind.wrap IntKind.i64
                                (Int.tmod (IntKind.wrap IntKind.u64 d)
                                  (IntKind.wrap IntKind.u64
                                    (IntKind.wrap IntKind.i64
                                      (6 + IntKind.wrap IntKind.i64 (Int.tmod (IntKind.wrap IntKind.u64 a) 595)))))))
                          true)) &&
                    inR
                      (IntKind.wrap IntKind.i64
                        (IntKind.wrap IntKind.i64
                            (IntKind.wrap IntKind.i64 (Int.tmod (IntKind.wrap IntKind.u64 b) 1000000) +
                              IntKind.wrap IntKind.i64
                                (6 + IntKind.wrap IntKind.i64 (Int.tmod (IntKind.wrap IntKind.u64 a) 595))) +
                          IntKind.wrap IntKind.i64
                            (Int.tmod (IntKind.wrap IntKind.u64 d)
                              (IntKind.wrap IntKind.u64
                                (IntKind.wrap IntKind.i64
                                  (6 + IntKind.wrap IntKind.i64 (Int.tmod (IntKind.wrap IntKind.u64 a) 595))))))))
                  (T.ret
                    (V.s
                      (S.bool
                        (bif
                            bif
                                bif
                                    bif
                                        bif
                                            bif
                                                decide
                                                  (0 ≤
                                                    Md.since
                                                      (nextA
                                                        (withStable dflt (IntKind.wrap IntKind.i64
                                                              (6 +
                                                                IntKind.wrap IntKind.i64
                                                                  (Int.tmod (IntKind.wrap IntKind.u64 a) 595))))
                                                        { since := -1, most := 0 }
                                                        (IntKind.wrap IntKind.i64
                                                          (Int.tmod (IntKind.wrap IntKind.u64 b) 1000000))
                                                        true)) then
                                              Md.since
                                                    (nextA
                                                      (withStable dflt (IntKind.wrap IntKind.i64
                                                            (6 +
                                                              IntKind.wrap IntKind.i64
                                                                (Int.tmod (IntKind.wrap IntKind.u64 a) 595))))
                                                      {
                                                        since :=
                                                          Md.since
                                                            (nextA
                                                              (withStable dflt (IntKind.wrap IntKind.i64
                                                                    (6 +
                                                                      IntKind.wrap IntKind.i64
                                                                        (Int.tmod (IntKind.wrap IntKind.u64 a) 595))))
                                                              { since := -1, most := 0 }
                                                              (IntKind.wrap IntKind.i64
                                                                (Int.tmod (IntKind.wrap IntKind.u64 b) 1000000))
                                                              true),
                                                        most :=
                                                          Md.most
                                                            (nextA
                                                              (withStable dflt (IntKind.wrap IntKind.i64
                                                                    (6 +
                                                                      IntKind.wrap IntKind.i64
                                                                        (Int.tmod (IntKind.wrap IntKind.u64 a) 595))))
                                                              { since := -1, most := 0 }
                                                              (IntKind.wrap IntKind.i64
                                                                (Int.tmod (IntKind.wrap IntKind.u64 b) 1000000))
                                                              true) }
                                                      (IntKind.wrap IntKind.i64
                                                        (IntKind.wrap IntKind.i64
                                                            (IntKind.wrap IntKind.i64
                                                                (Int.tmod (IntKind.wrap IntKind.u64 b) 1000000) +
                                                              IntKind.wrap IntKind.i64
                                                                (6 +
                                                                  IntKind.wrap IntKind.i64
                                                                    (Int.tmod (IntKind.wrap IntKind.u64 a) 595))) -
                                                          1))
                                                      false) ==
                                                  Md.since
                                                    (nextA
                                                      (withStable dflt (IntKind.wrap IntKind.i64
                                                            (6 +
                                                              IntKind.wrap IntKind.i64
                                                                (Int.tmod (IntKind.wrap IntKind.u64 a) 595))))
                                                      { since := -1, most := 0 }
                                                      (IntKind.wrap IntKind.i64
                                                        (Int.tmod (IntKind.wrap IntKind.u64 b) 1000000))
                                                      true) &&
                                                (Md.most
                                                      (nextA
                                                        (withStable dflt (IntKind.wrap IntKind.i64
                                                              (6 +
                                                                IntKind.wrap IntKind.i64
                                                                  (Int.tmod (IntKind.wrap IntKind.u64 a) 595))))
                                                        {
                                                          since :=
                                                            Md.since
                                                              (nextA
                                                                (withStable dflt (IntKind.wrap IntKind.i64
                                                                      (6 +
                                                                        IntKind.wrap IntKind.i64
                                                                          (Int.tmod (IntKind.wrap IntKind.u64 a) 595))))
                                                                { since := -1, most := 0 }
                                                                (IntKind.wrap IntKind.i64
                                                                  (Int.tmod (IntKind.wrap IntKind.u64 b) 1000000))
                                                                true),
                                                          most :=
                                                            Md.most
                                                              (nextA
                                                                (withStable dflt (IntKind.wrap IntKind.i64
                                                                      (6 +
                                                                        IntKind.wrap IntKind.i64
                                                                          (Int.tmod (IntKind.wrap IntKind.u64 a) 595))))
                                                                { since := -1, most := 0 }
                                                                (IntKind.wrap IntKind.i64
                                                                  (Int.tmod (IntKind.wrap IntKind.u64 b) 1000000))
                                                                true) }
                                                        (IntKind.wrap IntKind.i64
                                                          (IntKind.wrap IntKind.i64
                                                              (IntKind.wrap IntKind.i64
                                                                  (Int.tmod (IntKind.wrap IntKind.u64 b) 1000000) +
                                                                IntKind.wrap IntKind.i64
                                                                  (6 +
                                                                    IntKind.wrap IntKind.i64
                                                                      (Int.tmod (IntKind.wrap IntKind.u64 a) 595))) -
                                                            1))
                                                        false) ==
                                                    Md.most
                                                      (nextA
                                                        (withStable dflt (IntKind.wrap IntKind.i64
                                                              (6 +
                                                                IntKind.wrap IntKind.i64
                                                                  (Int.tmod (IntKind.wrap IntKind.u64 a) 595))))
                                                        { since := -1, most := 0 }
                                                        (IntKind.wrap IntKind.i64
                                                          (Int.tmod (IntKind.wrap IntKind.u64 b) 1000000))
                                                        true) &&
                                                  true)
                                            else false then
                                          Md.since
                                                (nextA
                                                  (withStable dflt (IntKind.wrap IntKind.i64
                                                        (6 +
                                                          IntKind.wrap IntKind.i64
                                                            (Int.tmod (IntKind.wrap IntKind.u64 a) 595))))
                                                  {
                                                    since :=
                                                      Md.since
                                                        (nextA
                                                          (withStable dflt (IntKind.wrap IntKind.i64
                                                                (6 +
                                                                  IntKind.wrap IntKind.i64
                                                                    (Int.tmod (IntKind.wrap IntKind.u64 a) 595))))
                                                          { since := -1, most := 0 }
                                                          (IntKind.wrap IntKind.i64
                                                            (Int.tmod (IntKind.wrap IntKind.u64 b) 1000000))
                                                          true),
                                                    most :=
                                                      Md.most
                                                        (nextA
                                                          (withStable dflt (IntKind.wrap IntKind.i64
                                                                (6 +
                                                                  IntKind.wrap IntKind.i64
                                                                    (Int.tmod (IntKind.wrap IntKind.u64 a) 595))))
                                                          { since := -1, most := 0 }
                                                          (IntKind.wrap IntKind.i64
                                                            (Int.tmod (IntKind.wrap IntKind.u64 b) 1000000))
                                                          true) }
                                                  (IntKind.wrap IntKind.i64
                                                    (IntKind.wrap IntKind.i64
                                                        (Int.tmod (IntKind.wrap IntKind.u64 b) 1000000) +
                                                      IntKind.wrap IntKind.i64
                                                        (6 +
                                                          IntKind.wrap IntKind.i64
                                                            (Int.tmod (IntKind.wrap IntKind.u64 a) 595))))
                                                  false) ==
                                              -1 &&
                                            (Md.most
                                                  (nextA
                                                    (withStable dflt (IntKind.wrap IntKind.i64
                                                          (6 +
                                                            IntKind.wrap IntKind.i64
                                                              (Int.tmod (IntKind.wrap IntKind.u64 a) 595))))
                                                    {
                                                      since :=
                                                        Md.since
                                                          (nextA
                                                            (withStable dflt (IntKind.wrap IntKind.i64
                                                                  (6 +
                                                                    IntKind.wrap IntKind.i64
                                                                      (Int.tmod (IntKind.wrap IntKind.u64 a) 595))))
                                                            { since := -1, most := 0 }
                                                            (IntKind.wrap IntKind.i64
                                                              (Int.tmod (IntKind.wrap IntKind.u64 b) 1000000))
                                                            true),
                                                      most :=
                                                        Md.most
                                                          (nextA
                                                            (withStable dflt (IntKind.wrap IntKind.i64
                                                                  (6 +
                                                                    IntKind.wrap IntKind.i64
                                                                      (Int.tmod (IntKind.wrap IntKind.u64 a) 595))))
                                                            { since := -1, most := 0 }
                                                            (IntKind.wrap IntKind.i64
                                                              (Int.tmod (IntKind.wrap IntKind.u64 b) 1000000))
                                                            true) }
                                                    (IntKind.wrap IntKind.i64
                                                      (IntKind.wrap IntKind.i64
                                                          (Int.tmod (IntKind.wrap IntKind.u64 b) 1000000) +
                                                        IntKind.wrap IntKind.i64
                                                          (6 +
                                                            IntKind.wrap IntKind.i64
                                                              (Int.tmod (IntKind.wrap IntKind.u64 a) 595))))
                                                    false) ==
                                                0 &&
                                              true)
                                        else false then
                                      decide
                                        (0 ≤
                                          Md.since
                                            (nextA
                                              (withStable dflt (IntKind.wrap IntKind.i64
                                                    (6 +
                                                      IntKind.wrap IntKind.i64
                                                        (Int.tmod (IntKind.wrap IntKind.u64 a) 595))))
                                              {
                                                since :=
                                                  Md.since
                                                    (nextA
                                                      (withStable dflt (IntKind.wrap IntKind.i64
                                                            (6 +
                                                              IntKind.wrap IntKind.i64
                                                                (Int.tmod (IntKind.wrap IntKind.u64 a) 595))))
                                                      { since := -1, most := 0 }
                                                      (IntKind.wrap IntKind.i64
                                                        (Int.tmod (IntKind.wrap IntKind.u64 b) 1000000))
                                                      true),
                                                most :=
                                                  Md.most
                                                    (nextA
                                                      (withStable dflt (IntKind.wrap IntKind.i64
                                                            (6 +
                                                              IntKind.wrap IntKind.i64
                                                                (Int.tmod (IntKind.wrap IntKind.u64 a) 595))))
                                                      { since := -1, most := 0 }
                                                      (IntKind.wrap IntKind.i64
                                                        (Int.tmod (IntKind.wrap IntKind.u64 b) 1000000))
                                                      true) }
                                              (IntKind.wrap IntKind.i64
                                                (IntKind.wrap IntKind.i64
                                                    (Int.tmod (IntKind.wrap IntKind.u64 b) 1000000) +
                                                  IntKind.wrap IntKind.i64
                                                    (Int.tmod (IntKind.wrap IntKind.u64 d)
                                                      (IntKind.wrap IntKind.u64
                                                        (IntKind.wrap IntKind.i64
                                                          (6 +
                                                            IntKind.wrap IntKind.i64
                                                              (Int.tmod (IntKind.wrap IntKind.u64 a) 595)))))))
                                              true))
                                    else false then
                                  Md.since
                                      (nextA
                                        (withStable dflt (IntKind.wrap IntKind.i64
                                              (6 +
                                                IntKind.wrap IntKind.i64 (Int.tmod (IntKind.wrap IntKind.u64 a) 595))))
                                        {
                                          since :=
                                            Md.since
                                              (nextA
                                                (withStable dflt (IntKind.wrap IntKind.i64
                                                      (6 +
                                                        IntKind.wrap IntKind.i64
                                                          (Int.tmod (IntKind.wrap IntKind.u64 a) 595))))
                                                { since := -1, most := 0 }
                                                (IntKind.wrap IntKind.i64
                                                  (Int.tmod (IntKind.wrap IntKind.u64 b) 1000000))
                                                true),
                                          most :=
                                            Md.most
                                              (nextA
                                                (withStable dflt (IntKind.wrap IntKind.i64
                                                      (6 +
                                                        IntKind.wrap IntKind.i64
                                                          (Int.tmod (IntKind.wrap IntKind.u64 a) 595))))
                                                { since := -1, most := 0 }
                                                (IntKind.wrap IntKind.i64
                                                  (Int.tmod (IntKind.wrap IntKind.u64 b) 1000000))
                                                true) }
                                        (IntKind.wrap IntKind.i64
                                          (IntKind.wrap IntKind.i64 (Int.tmod (IntKind.wrap IntKind.u64 b) 1000000) +
                                            IntKind.wrap IntKind.i64
                                              (Int.tmod (IntKind.wrap IntKind.u64 d)
                                                (IntKind.wrap IntKind.u64
                                                  (IntKind.wrap IntKind.i64
                                                    (6 +
                                                      IntKind.wrap IntKind.i64
                                                        (Int.tmod (IntKind.wrap IntKind.u64 a) 595)))))))
                                        true) ==
                                    IntKind.wrap IntKind.i64
                                      (IntKind.wrap IntKind.i64 (Int.tmod (IntKind.wrap IntKind.u64 b) 1000000) +
                                        IntKind.wrap IntKind.i64
                                          (Int.tmod (IntKind.wrap IntKind.u64 d)
                                            (IntKind.wrap IntKind.u64
                                              (IntKind.wrap IntKind.i64
                                                (6 +
                                                  IntKind.wrap IntKind.i64
                                                    (Int.tmod (IntKind.wrap IntKind.u64 a) 595))))))
                                else false then
                              Md.since
                                    (nextA
                                      (withStable dflt (IntKind.wrap IntKind.i64
                                            (6 + IntKind.wrap IntKind.i64 (Int.tmod (IntKind.wrap IntKind.u64 a) 595))))
                                      {
                                        since :=
                                          Md.since
                                            (nextA
                                              (withStable dflt (IntKind.wrap IntKind.i64
                                                    (6 +
                                                      IntKind.wrap IntKind.i64
                                                        (Int.tmod (IntKind.wrap IntKind.u64 a) 595))))
                                              {
                                                since :=
                                                  Md.since
                                                    (nextA
                                                      (withStable dflt (IntKind.wrap IntKind.i64
                                                            (6 +
                                                              IntKind.wrap IntKind.i64
                                                                (Int.tmod (IntKind.wrap IntKind.u64 a) 595))))
                                                      { since := -1, most := 0 }
                                                      (IntKind.wrap IntKind.i64
                                                        (Int.tmod (IntKind.wrap IntKind.u64 b) 1000000))
                                                      true),
                                                most :=
                                                  Md.most
                                                    (nextA
                                                      (withStable dflt (IntKind.wrap IntKind.i64
                                                            (6 +
                                                              IntKind.wrap IntKind.i64
                                                                (Int.tmod (IntKind.wrap IntKind.u64 a) 595))))
                                                      { since := -1, most := 0 }
                                                      (IntKind.wrap IntKind.i64
                                                        (Int.tmod (IntKind.wrap IntKind.u64 b) 1000000))
                                                      true) }
                                              (IntKind.wrap IntKind.i64
                                                (IntKind.wrap IntKind.i64
                                                    (Int.tmod (IntKind.wrap IntKind.u64 b) 1000000) +
                                                  IntKind.wrap IntKind.i64
                                                    (Int.tmod (IntKind.wrap IntKind.u64 d)
                                                      (IntKind.wrap IntKind.u64
                                                        (IntKind.wrap IntKind.i64
                                                          (6 +
                                                            IntKind.wrap IntKind.i64
                                                              (Int.tmod (IntKind.wrap IntKind.u64 a) 595)))))))
                                              true),
                                        most :=
                                          Md.most
                                            (nextA
                                              (withStable dflt (IntKind.wrap IntKind.i64
                                                    (6 +
                                                      IntKind.wrap IntKind.i64
                                                        (Int.tmod (IntKind.wrap IntKind.u64 a) 595))))
                                              {
                                                since :=
                                                  Md.since
                                                    (nextA
                                                      (withStable dflt (IntKind.wrap IntKind.i64
                                                            (6 +
                                                              IntKind.wrap IntKind.i64
                                                                (Int.tmod (IntKind.wrap IntKind.u64 a) 595))))
                                                      { since := -1, most := 0 }
                                                      (IntKind.wrap IntKind.i64
                                                        (Int.tmod (IntKind.wrap IntKind.u64 b) 1000000))
                                                      true),
                                                most :=
                                                  Md.most
                                                    (nextA
                                                      (withStable dflt (IntKind.wrap IntKind.i64
                                                            (6 +
                                                              IntKind.wrap IntKind.i64
                                                                (Int.tmod (IntKind.wrap IntKind.u64 a) 595))))
                                                      { since := -1, most := 0 }
                                                      (IntKind.wrap IntKind.i64
                                                        (Int.tmod (IntKind.wrap IntKind.u64 b) 1000000))
                                                      true) }
                                              (IntKind.wrap IntKind.i64
                                                (IntKind.wrap IntKind.i64
                                                    (Int.tmod (IntKind.wrap IntKind.u64 b) 1000000) +
                                                  IntKind.wrap IntKind.i64
                                                    (Int.tmod (IntKind.wrap IntKind.u64 d)
                                                      (IntKind.wrap IntKind.u64
                                                        (IntKind.wrap IntKind.i64
                                                          (6 +
                                                            IntKind.wrap IntKind.i64
                                                              (Int.tmod (IntKind.wrap IntKind.u64 a) 595)))))))
                                              true) }
                                      (IntKind.wrap IntKind.i64
                                        (IntKind.wrap IntKind.i64
                                            (IntKind.wrap IntKind.i64
                                                (IntKind.wrap IntKind.i64
                                                    (Int.tmod (IntKind.wrap IntKind.u64 b) 1000000) +
                                                  IntKind.wrap IntKind.i64
                                                    (6 +
                                                      IntKind.wrap IntKind.i64
                                                        (Int.tmod (IntKind.wrap IntKind.u64 a) 595))) +
                                              IntKind.wrap IntKind.i64
                                                (Int.tmod (IntKind.wrap IntKind.u64 d)
                                                  (IntKind.wrap IntKind.u64
                                                    (IntKind.wrap IntKind.i64
                                                      (6 +
                                                        IntKind.wrap IntKind.i64
                                                          (Int.tmod (IntKind.wrap IntKind.u64 a) 595)))))) -
                                          1))
                                      false) ==
                                  Md.since
                                    (nextA
                                      (withStable dflt (IntKind.wrap IntKind.i64
                                            (6 + IntKind.wrap IntKind.i64 (Int.tmod (IntKind.wrap IntKind.u64 a) 595))))
                                      {
                                        since :=
                                          Md.since
                                            (nextA
                                              (withStable dflt (IntKind.wrap IntKind.i64
                                                    (6 +
                                                      IntKind.wrap IntKind.i64
                                                        (Int.tmod (IntKind.wrap IntKind.u64 a) 595))))
                                              { since := -1, most := 0 }
                                              (IntKind.wrap IntKind.i64 (Int.tmod (IntKind.wrap IntKind.u64 b) 1000000))
                                              true),
                                        most :=
                                          Md.most
                                            (nextA
                                              (withStable dflt (IntKind.wrap IntKind.i64
                                                    (6 +
                                                      IntKind.wrap IntKind.i64
                                                        (Int.tmod (IntKind.wrap IntKind.u64 a) 595))))
                                              { since := -1, most := 0 }
                                              (IntKind.wrap IntKind.i64 (Int.tmod (IntKind.wrap IntKind.u64 b) 1000000))
                                              true) }
                                      (IntKind.wrap IntKind.i64
                                        (IntKind.wrap IntKind.i64 (Int.tmod (IntKind.wrap IntKind.u64 b) 1000000) +
                                          IntKind.wrap IntKind.i64
                                            (Int.tmod (IntKind.wrap IntKind.u64 d)
                                              (IntKind.wrap IntKind.u64
                                                (IntKind.wrap IntKind.i64
                                                  (6 +
                                                    IntKind.wrap IntKind.i64
                                                      (Int.tmod (IntKind.wrap IntKind.u64 a) 595)))))))
                                      true) &&
                                (Md.most
                                      (nextA
                                        (withStable dflt (IntKind.wrap IntKind.i64
                                              (6 +
                                                IntKind.wrap IntKind.i64 (Int.tmod (IntKind.wrap IntKind.u64 a) 595))))
                                        {
                                          since :=
                                            Md.since
                                              (nextA
                                                (withStable dflt (IntKind.wrap IntKind.i64
                                                      (6 +
                                                        IntKind.wrap IntKind.i64
                                                          (Int.tmod (IntKind.wrap IntKind.u64 a) 595))))
                                                {
                                                  since :=
                                                    Md.since
                                                      (nextA
                                                        (withStable dflt (IntKind.wrap IntKind.i64
                                                              (6 +
                                                                IntKind.wrap IntKind.i64
                                                                  (Int.tmod (IntKind.wrap IntKind.u64 a) 595))))
                                                        { since := -1, most := 0 }
                                                        (IntKind.wrap IntKind.i64
                                                          (Int.tmod (IntKind.wrap IntKind.u64 b) 1000000))
                                                        true),
                                                  most :=
                                                    Md.most
                                                      (nextA
                                                        (withStable dflt (IntKind.wrap IntKind.i64
                                                              (6 +
                                                                IntKind.wrap IntKind.i64
                                                                  (Int.tmod (IntKind.wrap IntKind.u64 a) 595))))
                                                        { since := -1, most := 0 }
                                                        (IntKind.wrap IntKind.i64
                                                          (Int.tmod (IntKind.wrap IntKind.u64 b) 1000000))
                                                        true) }
                                                (IntKind.wrap IntKind.i64
                                                  (IntKind.wrap IntKind.i64
                                                      (Int.tmod (IntKind.wrap IntKind.u64 b) 1000000) +
                                                    IntKind.wrap IntKind.i64
                                                      (Int.tmod (IntKind.wrap IntKind.u64 d)
                                                        (IntKind.wrap IntKind.u64
                                                          (IntKind.wrap IntKind.i64
                                                            (6 +
                                                              IntKind.wrap IntKind.i64
                                                                (Int.tmod (IntKind.wrap IntKind.u64 a) 595)))))))
                                                true),
                                          most :=
                                            Md.most
                                              (nextA
                                                (withStable dflt (IntKind.wrap IntKind.i64
                                                      (6 +
                                                        IntKind.wrap IntKind.i64
                                                          (Int.tmod (IntKind.wrap IntKind.u64 a) 595))))
                                                {
                                                  since :=
                                                    Md.since
                                                      (nextA
                                                        (withStable dflt (IntKind.wrap IntKind.i64
                                                              (6 +
                                                                IntKind.wrap IntKind.i64
                                                                  (Int.tmod (IntKind.wrap IntKind.u64 a) 595))))
                                                        { since := -1, most := 0 }
                                                        (IntKind.wrap IntKind.i64
                                                          (Int.tmod (IntKind.wrap IntKind.u64 b) 1000000))
                                                        true),
                                                  most :=
                                                    Md.most
                                                      (nextA
                                                        (withStable dflt (IntKind.wrap IntKind.i64
                                                              (6 +
                                                                IntKind.wrap IntKind.i64
                                                                  (Int.tmod (IntKind.wrap IntKind.u64 a) 595))))
                                                        { since := -1, most := 0 }
                                                        (IntKind.wrap IntKind.i64
                                                          (Int.tmod (IntKind.wrap IntKind.u64 b) 1000000))
                                                        true) }
                                                (IntKind.wrap IntKind.i64
                                                  (IntKind.wrap IntKind.i64
                                                      (Int.tmod (IntKind.wrap IntKind.u64 b) 1000000) +
                                                    IntKind.wrap IntKind.i64
                                                      (Int.tmod (IntKind.wrap IntKind.u64 d)
                                                        (IntKind.wrap IntKind.u64
                                                          (IntKind.wrap IntKind.i64
                                                            (6 +
                                                              IntKind.wrap IntKind.i64
                                                                (Int.tmod (IntKind.wrap IntKind.u64 a) 595)))))))
                                                true) }
                                        (IntKind.wrap IntKind.i64
                                          (IntKind.wrap IntKind.i64
                                              (IntKind.wrap IntKind.i64
                                                  (IntKind.wrap IntKind.i64
                                                      (Int.tmod (IntKind.wrap IntKind.u64 b) 1000000) +
                                                    IntKind.wrap IntKind.i64
                                                      (6 +
                                                        IntKind.wrap IntKind.i64
                                                          (Int.tmod (IntKind.wrap IntKind.u64 a) 595))) +
                                                IntKind.wrap IntKind.i64
                                                  (Int.tmod (IntKind.wrap IntKind.u64 d)
                                                    (IntKind.wrap IntKind.u64
                                                      (IntKind.wrap IntKind.i64
                                                        (6 +
                                                          IntKind.wrap IntKind.i64
                                                            (Int.tmod (IntKind.wrap IntKind.u64 a) 595)))))) -
                                            1))
                                        false) ==
                                    Md.most
                                      (nextA
                                        (withStable dflt (IntKind.wrap IntKind.i64
                                              (6 +
                                                IntKind.wrap IntKind.i64 (Int.tmod (IntKind.wrap IntKind.u64 a) 595))))
                                        {
                                          since :=
                                            Md.since
                                              (nextA
                                                (withStable dflt (IntKind.wrap IntKind.i64
                                                      (6 +
                                                        IntKind.wrap IntKind.i64
                                                          (Int.tmod (IntKind.wrap IntKind.u64 a) 595))))
                                                { since := -1, most := 0 }
                                                (IntKind.wrap IntKind.i64
                                                  (Int.tmod (IntKind.wrap IntKind.u64 b) 1000000))
                                                true),
                                          most :=
                                            Md.most
                                              (nextA
                                                (withStable dflt (IntKind.wrap IntKind.i64
                                                      (6 +
                                                        IntKind.wrap IntKind.i64
                                                          (Int.tmod (IntKind.wrap IntKind.u64 a) 595))))
                                                { since := -1, most := 0 }
                                                (IntKind.wrap IntKind.i64
                                                  (Int.tmod (IntKind.wrap IntKind.u64 b) 1000000))
                                                true) }
                                        (IntKind.wrap IntKind.i64
                                          (IntKind.wrap IntKind.i64 (Int.tmod (IntKind.wrap IntKind.u64 b) 1000000) +
                                            IntKind.wrap IntKind.i64
                                              (Int.tmod (IntKind.wrap IntKind.u64 d)
                                                (IntKind.wrap IntKind.u64
                                                  (IntKind.wrap IntKind.i64
                                                    (6 +
                                                      IntKind.wrap IntKind.i64
                                                        (Int.tmod (IntKind.wrap IntKind.u64 a) 595)))))))
                                        true) &&
                                  true)
                            else false then
                          !decide
                              (0 ≤
                                Md.since
                                  (nextA
                                    (withStable dflt (IntKind.wrap IntKind.i64
                                          (6 + IntKind.wrap IntKind.i64 (Int.tmod (IntKind.wrap IntKind.u64 a) 595))))
                                    {
                                      since :=
                                        Md.since
                                          (nextA
                                            (withStable dflt (IntKind.wrap IntKind.i64
                                                  (6 +
                                                    IntKind.wrap IntKind.i64
                                                      (Int.tmod (IntKind.wrap IntKind.u64 a) 595))))
                                            {
                                              since :=
                                                Md.since
                                                  (nextA
                                                    (withStable dflt (IntKind.wrap IntKind.i64
                                                          (6 +
                                                            IntKind.wrap IntKind.i64
                                                              (Int.tmod (IntKind.wrap IntKind.u64 a) 595))))
                                                    { since := -1, most := 0 }
                                                    (IntKind.wrap IntKind.i64
                                                      (Int.tmod (IntKind.wrap IntKind.u64 b) 1000000))
                                                    true),
                                              most :=
                                                Md.most
                                                  (nextA
                                                    (withStable dflt (IntKind.wrap IntKind.i64
                                                          (6 +
                                                            IntKind.wrap IntKind.i64
                                                              (Int.tmod (IntKind.wrap IntKind.u64 a) 595))))
                                                    { since := -1, most := 0 }
                                                    (IntKind.wrap IntKind.i64
                                                      (Int.tmod (IntKind.wrap IntKind.u64 b) 1000000))
                                                    true) }
                                            (IntKind.wrap IntKind.i64
                                              (IntKind.wrap IntKind.i64
                                                  (Int.tmod (IntKind.wrap IntKind.u64 b) 1000000) +
                                                IntKind.wrap IntKind.i64
                                                  (Int.tmod (IntKind.wrap IntKind.u64 d)
                                                    (IntKind.wrap IntKind.u64
                                                      (IntKind.wrap IntKind.i64
                                                        (6 +
                                                          IntKind.wrap IntKind.i64
                                                            (Int.tmod (IntKind.wrap IntKind.u64 a) 595)))))))
                                            true),
                                      most :=
                                        Md.most
                                          (nextA
                                            (withStable dflt (IntKind.wrap IntKind.i64
                                                  (6 +
                                                    IntKind.wrap IntKind.i64
                                                      (Int.tmod (IntKind.wrap IntKind.u64 a) 595))))
                                            {
                                              since :=
                                                Md.since
                                                  (nextA
                                                    (withStable dflt (IntKind.wrap IntKind.i64
                                                          (6 +
                                                            IntKind.wrap IntKind.i64
                                                              (Int.tmod (IntKind.wrap IntKind.u64 a) 595))))
                                                    { since := -1, most := 0 }
                                                    (IntKind.wrap IntKind.i64
                                                      (Int.tmod (IntKind.wrap IntKind.u64 b) 1000000))
                                                    true),
                                              most :=
                                                Md.most
                                                  (nextA
                                                    (withStable dflt (IntKind.wrap IntKind.i64
                                                          (6 +
                                                            IntKind.wrap IntKind.i64
                                                              (Int.tmod (IntKind.wrap IntKind.u64 a) 595))))
                                                    { since := -1, most := 0 }
                                                    (IntKind.wrap IntKind.i64
                                                      (Int.tmod (IntKind.wrap IntKind.u64 b) 1000000))
                                                    true) }
                                            (IntKind.wrap IntKind.i64
                                              (IntKind.wrap IntKind.i64
                                                  (Int.tmod (IntKind.wrap IntKind.u64 b) 1000000) +
                                                IntKind.wrap IntKind.i64
                                                  (Int.tmod (IntKind.wrap IntKind.u64 d)
                                                    (IntKind.wrap IntKind.u64
                                                      (IntKind.wrap IntKind.i64
                                                        (6 +
                                                          IntKind.wrap IntKind.i64
                                                            (Int.tmod (IntKind.wrap IntKind.u64 a) 595)))))))
                                            true) }
                                    (IntKind.wrap IntKind.i64
                                      (IntKind.wrap IntKind.i64
                                          (IntKind.wrap IntKind.i64 (Int.tmod (IntKind.wrap IntKind.u64 b) 1000000) +
                                            IntKind.wrap IntKind.i64
                                              (6 +
                                                IntKind.wrap IntKind.i64 (Int.tmod (IntKind.wrap IntKind.u64 a) 595))) +
                                        IntKind.wrap IntKind.i64
                                          (Int.tmod (IntKind.wrap IntKind.u64 d)
                                            (IntKind.wrap IntKind.u64
                                              (IntKind.wrap IntKind.i64
                                                (6 +
                                                  IntKind.wrap IntKind.i64
                                                    (Int.tmod (IntKind.wrap IntKind.u64 a) 595)))))))
                                    false))
                        else false))))
                  T.fail)
                T.fail)
              T.fail)
            T.fail)
          T.fail)
        T.fail)))
end Go.Proofs.Ytdkebjdhpioehaa.Conf
