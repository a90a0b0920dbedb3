/- A line as a value, by its fields. -/
import Derived.Test.YtkpbbfehglihlaaGreatDoorDu09
namespace Go.Proofs.YtkpbbfehglihlaaGreatDoor
open Go.RowKit

abbrev lF (f0 f1 : Int) (f2 f3 f4 f5 f6 : List UInt8) (f7 f8 f9 f10 f11 f12 : Int) (s1 s2 s3 s4 : SlV) : Value := .agg #[.int .i64 f0, .int .i64 f1, .string (str f2), .string (str f3), .string (str f4), .string (str f5), .string (str f6), .int .u64 f7, .int .u32 f8, .int .i64 f9, .int .i64 f10, .int .i64 f11, .int .i64 f12, .slice s1.A s1.n s1.c, .slice s2.A s2.n s2.c, .slice s3.A s3.n s3.c, .slice s4.A s4.n s4.c]
end Go.Proofs.YtkpbbfehglihlaaGreatDoor
