/- The program's keys of passphrases and keys of keys: both contracts. Own work. -/
import Derived.Test.YteklchmbeiclcaaDoorKdfDeriveP
import Derived.Test.YteklchmbeiclcaaDoorKdfLabelP
