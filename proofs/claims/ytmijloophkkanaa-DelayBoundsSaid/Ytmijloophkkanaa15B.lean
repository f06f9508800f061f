/- Trees as the machine prints them. -/
import Derived.Test.Ytmijloophkkanaa15P
import Derived.Test.YtmijloophkkanaaYes
namespace Go.Proofs.Ytmijloophkkanaa.Del
open Go.Eng Go.RowKit
set_option linter.unusedVariables false
set_option maxRecDepth 100000
noncomputable def pathB (a b c : Int) : Option (List (Bool × Bool) × V) := some
  ([(1000001 == 0, false), (1000001 == 0, false), (601 == 0, false),
      (!bif decide (0 ≤ IntKind.wrap IntKind.i64 (Int.tmod (IntKind.wrap IntKind.u64 c) 601)) then
            decide (IntKind.wrap IntKind.i64 (Int.tmod (IntKind.wrap IntKind.u64 c) 601) ≤ 600)
          else false,
        false),
      (refB 0 (-1) 1, true), (refB 0 1099511627777 1, true), (refB 0 5 (-1), true), (refB 0 5 1000001, true),
      (1 != 1, false), (1 != 1, false), (1 != 1, false), (1 != 1, false), (0 != 0, false),
      (refB 0 5 (IntKind.wrap IntKind.i64 (Int.tmod (IntKind.wrap IntKind.u64 a) 1000001)), false),
      (bif 0 != 0 then true else 0 != 0, false),
      (refB 5 5 (IntKind.wrap IntKind.i64 (Int.tmod (IntKind.wrap IntKind.u64 b) 1000001)), false),
      (okP 0 1 [(5, IntKind.wrap IntKind.i64 (Int.tmod (IntKind.wrap IntKind.u64 a) 1000001))] 5
          (IntKind.wrap IntKind.i64 (Int.tmod (IntKind.wrap IntKind.u64 b) 1000001)),
        true),
      (bif bif 0 != 0 then true else 0 != 0 then true else 0 != 0, false), (refB 5 4 9, true),
      (bif bif bif 0 != 0 then true else 0 != 0 then true else 0 != 0 then true else 1 != 1, false),
      (invW
          (pW (IntKind.wrap IntKind.i64 (Int.tmod (IntKind.wrap IntKind.u64 c) 601)) 5 (mx0 5)
            (dropN [(5, IntKind.wrap IntKind.i64 (Int.tmod (IntKind.wrap IntKind.u64 a) 1000001))]
                (IntKind.wrap IntKind.i64 (Int.tmod (IntKind.wrap IntKind.u64 b) 1000001)) 1 +
              1)
            (putN 1 [(5, IntKind.wrap IntKind.i64 (Int.tmod (IntKind.wrap IntKind.u64 a) 1000001))] 5
              (IntKind.wrap IntKind.i64 (Int.tmod (IntKind.wrap IntKind.u64 b) 1000001))))
          0,
        true)],
    V.s
      (S.bool
        (mostN (IntKind.wrap IntKind.i64 (Int.tmod (IntKind.wrap IntKind.u64 c) 601)) 5 (mx0 5)
            (dropN [(5, IntKind.wrap IntKind.i64 (Int.tmod (IntKind.wrap IntKind.u64 a) 1000001))]
                (IntKind.wrap IntKind.i64 (Int.tmod (IntKind.wrap IntKind.u64 b) 1000001)) 1 +
              1)
            (putN 1 [(5, IntKind.wrap IntKind.i64 (Int.tmod (IntKind.wrap IntKind.u64 a) 1000001))] 5
              (IntKind.wrap IntKind.i64 (Int.tmod (IntKind.wrap IntKind.u64 b) 1000001))) ==
          if
              IntKind.wrap IntKind.i64 (Int.tmod (IntKind.wrap IntKind.u64 b) 1000001) >
                IntKind.wrap IntKind.i64 (Int.tmod (IntKind.wrap IntKind.u64 a) 1000001) then
            IntKind.wrap IntKind.i64 (Int.tmod (IntKind.wrap IntKind.u64 b) 1000001)
          else IntKind.wrap IntKind.i64 (Int.tmod (IntKind.wrap IntKind.u64 a) 1000001))))
end Go.Proofs.Ytmijloophkkanaa.Del
