/- Bits, as the walks of texts meet them. -/
import Derived.Test.YtkjjmdmaffeboaaDoorBase
namespace Go.Proofs.YtkjjmdmaffeboaaDoor
theorem wraps_i64 (n : Int) (h₀ : 0 ≤ n) (h₁ : n < 2 ^ 63) : IntKind.i64.wrap n = n := by rw [IntKind.wrap_i64]; omega
theorem b32_and63 (x : Int) (h0 : 0 ≤ x) (h1 : x < 2147483648) : bits .and .i32 x 63 = x % 64 := bits_mask .i32 31 (by decide) wraps_i32 6 (by decide) x h0 h1
theorem b32_and1023 (x : Int) (h0 : 0 ≤ x) (h1 : x < 2147483648) : bits .and .i32 x 1023 = x % 1024 := bits_mask .i32 31 (by decide) wraps_i32 10 (by decide) x h0 h1
theorem b8_or128 (y : Int) (h0 : 0 ≤ y) (h1 : y < 64) : bits .or .u8 128 y = 128 + y := bits_join .u8 8 (by decide) wraps_u8 6 128 y (by decide) (by decide) (by decide) h0 h1 (by omega)
theorem b8_or192 (y : Int) (h0 : 0 ≤ y) (h1 : y < 64) : bits .or .u8 192 y = 192 + y := bits_join .u8 8 (by decide) wraps_u8 6 192 y (by decide) (by decide) (by decide) h0 h1 (by omega)
theorem b8_or224 (y : Int) (h0 : 0 ≤ y) (h1 : y < 32) : bits .or .u8 224 y = 224 + y := bits_join .u8 8 (by decide) wraps_u8 5 224 y (by decide) (by decide) (by decide) h0 h1 (by omega)
theorem b8_and63 (x : Int) (h0 : 0 ≤ x) (h1 : x < 256) : bits .and .u8 x 63 = x % 64 := bits_mask .u8 8 (by decide) wraps_u8 6 (by decide) x h0 h1
theorem b32_or6 (x y : Int) (h0 : 0 ≤ x) (h1 : x < 1000000) (hy0 : 0 ≤ y) (hy1 : y < 64) : bits .or .i32 (x * 64) y = x * 64 + y := bits_join .i32 31 (by decide) wraps_i32 6 (x * 64) y (by omega) (by simp) (by omega) hy0 hy1 (by omega)
theorem b64_and63 (x : Int) (h0 : 0 ≤ x) (h1 : x < 9223372036854775808) : bits .and .i64 x 63 = x % 64 := bits_mask .i64 63 (by decide) wraps_i64 6 (by decide) x h0 h1
theorem b64_and31 (x : Int) (h0 : 0 ≤ x) (h1 : x < 9223372036854775808) : bits .and .i64 x 31 = x % 32 := bits_mask .i64 63 (by decide) wraps_i64 5 (by decide) x h0 h1
theorem b64_and15 (x : Int) (h0 : 0 ≤ x) (h1 : x < 9223372036854775808) : bits .and .i64 x 15 = x % 16 := bits_mask .i64 63 (by decide) wraps_i64 4 (by decide) x h0 h1
theorem b64_and1023 (x : Int) (h0 : 0 ≤ x) (h1 : x < 9223372036854775808) : bits .and .i64 x 1023 = x % 1024 := bits_mask .i64 63 (by decide) wraps_i64 10 (by decide) x h0 h1
theorem b64_or128 (y : Int) (h0 : 0 ≤ y) (h1 : y < 64) : bits .or .i64 128 y = 128 + y := bits_join .i64 63 (by decide) wraps_i64 6 128 y (by decide) (by decide) (by decide) h0 h1 (by omega)
theorem b64_or192 (y : Int) (h0 : 0 ≤ y) (h1 : y < 64) : bits .or .i64 192 y = 192 + y := bits_join .i64 63 (by decide) wraps_i64 6 192 y (by decide) (by decide) (by decide) h0 h1 (by omega)
theorem b64_or224 (y : Int) (h0 : 0 ≤ y) (h1 : y < 32) : bits .or .i64 224 y = 224 + y := bits_join .i64 63 (by decide) wraps_i64 5 224 y (by decide) (by decide) (by decide) h0 h1 (by omega)
theorem b64_or55296 (y : Int) (h0 : 0 ≤ y) (h1 : y < 1024) : bits .or .i64 55296 y = 55296 + y := bits_join .i64 63 (by decide) wraps_i64 10 55296 y (by decide) (by decide) (by decide) h0 h1 (by omega)
theorem b64_or56320 (y : Int) (h0 : 0 ≤ y) (h1 : y < 1024) : bits .or .i64 56320 y = 56320 + y := bits_join .i64 63 (by decide) wraps_i64 10 56320 y (by decide) (by decide) (by decide) h0 h1 (by omega)
theorem b64_or6 (x y : Int) (h0 : 0 ≤ x) (h1 : x < 1000000) (hy0 : 0 ≤ y) (hy1 : y < 64) : bits .or .i64 (x * 64) y = x * 64 + y := bits_join .i64 63 (by decide) wraps_i64 6 (x * 64) y (by omega) (by simp) (by omega) hy0 hy1 (by omega)
theorem b64_or12 (x y : Int) (h0 : 0 ≤ x) (h1 : x < 1000000) (hy0 : 0 ≤ y) (hy1 : y < 4096) : bits .or .i64 (x * 4096) y = x * 4096 + y := bits_join .i64 63 (by decide) wraps_i64 12 (x * 4096) y (by omega) (by simp) (by omega) hy0 hy1 (by omega)
theorem b64_or126 (x y z : Int) (h0 : 0 ≤ x) (h1 : x < 16) (hy0 : 0 ≤ y) (hy1 : y < 64) (hz0 : 0 ≤ z) (hz1 : z < 64) : bits .or .i64 (x * 4096 + y * 64) z = x * 4096 + y * 64 + z := bits_join .i64 63 (by decide) wraps_i64 6 (x * 4096 + y * 64) z (by omega) (by omega) (by omega) hz0 hz1 (by omega)
end Go.Proofs.YtkjjmdmaffeboaaDoor
