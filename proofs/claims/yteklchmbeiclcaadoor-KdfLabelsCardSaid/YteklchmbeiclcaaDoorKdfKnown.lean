/- Known keys: of a passphrase, and of two labels: reckoned. Own work. -/
import Derived.Test.YteklchmbeiclcaaDoorKdfMath
namespace Go.Proofs.YteklchmbeiclcaaDoor
namespace SM
theorem kder_password : kder [112, 97, 115, 115, 119, 111, 114, 100] [115, 97, 108, 116] 1 4 = [18, 15, 182, 207] := by decide +kernel
theorem klabel_apart : klabel (List.replicate 32 0) [97] ≠ klabel (List.replicate 32 0) [98] := by decide +kernel
end SM
end Go.Proofs.YteklchmbeiclcaaDoor
